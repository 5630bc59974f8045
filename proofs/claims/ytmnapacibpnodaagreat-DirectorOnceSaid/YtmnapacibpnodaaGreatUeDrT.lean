/- DrT -/
import Derived.Test.YtmnapacibpnodaaGreatUeDrR
import Derived.Test.YtmnapacibpnodaaGreatUeDrQ
import Derived.Test.YtmnapacibpnodaaGreatUeDrF
import Derived.Test.YtmnapacibpnodaaGreatUeFwD
open Go Go.RowKit
namespace Go.Proofs.YtmnapacibpnodaaGreat
instance (priority := 400) OffR.ofA_ (S : Nat → Prop) (A : Option Addr) (vs : List Value) [o : OffA S A] : OffR S A vs := ⟨fun _ => o.out⟩
theorem strL_inj {a b : List UInt8} (h : strL a = strL b) : a = b := by
  have h1 := congrArg (fun x : ByteArray => x.data.toList) h
  simpa [strL] using h1
theorem rp_back (n : Int) (h0 : 0 ≤ n) (h1 : n ≤ 100000) : rOk (rpM n) = true ∧ [97] = rU (kindS 5 (rpM n)) ∧ (repOf (rpM n)).k = n := by
  have h2 := rep_fwd (rp_ok n h0 h1) zeroH
  have h3 : (repL (repOf (rpM n)).u (repOf (rpM n)).n (repOf (rpM n)).h (repOf (rpM n)).c (repOf (rpM n)).k).toArray = (repL (strL [97]) (strL []) zeroH (n % 8) n).toArray := h2.2
  refine ⟨h2.1, ?_, ?_⟩
  · have a := rep_at0 (repOf (rpM n)).u (repOf (rpM n)).n (repOf (rpM n)).h (repOf (rpM n)).c (repOf (rpM n)).k
    rw [h3, rep_at0] at a
    injection a with a
    injection a with a
    exact strL_inj a
  · have a := rep_at35 (repOf (rpM n)).u (repOf (rpM n)).n (repOf (rpM n)).h (repOf (rpM n)).c (repOf (rpM n)).k
    rw [h3, rep_at35] at a
    injection a with a
    injection a with _ a
    exact a.symm
/-- one mark's word -/
theorem meets_one (m : List UInt8) (i j u : Nat) (r : MarkR) (h : markOf r = sigAt m j u) (hi : i < 3) (hj : j < 3) (hu : u < 16) : meetsB m [r] [pubN i] 1 = decide (j = i) := by
  have h1 := tells_sig m i j u hi hj hu
  obtain ⟨p, hp⟩ : ∃ p, p = pubN i := ⟨_, rfl⟩
  rw [← hp] at h1 ⊢
  have ha : ([r].take 4).any (signsB m p) = decide (j = i) := by
    rw [List.take_of_length_le (by simp), any_tells]
    show ([markOf r] : List _).any (tells m p) = _
    rw [h, List.any_cons, List.any_nil, Bool.or_false, h1]
  have hI : isB [p] 1 = true := rfl
  have hw : whoN m [r] [p] [p].length = if decide (j = i) = true then [p] else [] := by
    show [] ++ (if hget [p] 0 ∈ [p].take 0 then [] else if ([r].take 4).any (signsB m (hget [p] 0)) then [hget [p] 0] else []) = _
    rw [show hget [p] 0 = p from rfl, ha]
    simp
  unfold meetsB
  rw [hI, hw]
  by_cases hj1 : j = i <;> simp [hj1]
/-- the law's ECU -/
def e97 (pb : H32) (q : Bool) (p : RepR) : EnrR := (((EnrR.new [97]).setW [104]).setP pb).setT q p
def rp0 : RepR := ⟨⟨#[]⟩, ⟨#[]⟩, zeroH, 0, 0⟩
theorem run_hB4 (w : World) : (Instr.build 26 #[(0, .int .u8 4)]).run Tryz.prog w = .ok (.agg (u8s (hB 4).l)) w := by kernel_rfl
theorem e97_rise (pb : H32) (q : Bool) (p : RepR) : RiseE [e97 pb q p] := fun i j h1 h2 => by
  have : j < 1 := h2
  omega
def accP (p p' : RepR) (old : Bool) : RepR := if old then p else p'
theorem accL_one (pb : H32) (q old : Bool) (p p' : RepR) (h : old = true → q = true) : accL [e97 pb q p] 0 p' true old = [e97 pb true (accP p p' old)] := by
  cases old
  · rfl
  · rw [h rfl]; rfl
/-- what the director holds of this ECU -/
def OnceD (w wr : World) (zd zr : Nat) (S0 : DS) (pb : H32) (la : Int) : Prop := ∃ q p, DrAt w wr zd zr (S0.setL [e97 pb q p]) ∧ q = decide (0 ≤ la) ∧ (0 ≤ la → p.k = la)
set_option maxRecDepth 100000 in
set_option maxHeartbeats 6400000 in
theorem directorOnce_calls {A : Option Addr} {n c : Nat} {x : List Int} {w : World} [hr : HR w A (i64l x)] (hl : x.length = n) (hmax : n ≤ 9223372036854775807) :
    Calls Tryz.prog 3 #[.slice A n c] w fun e w' => e = .returned (.bool true) ∧ Chg nowhere w w' := by
  by_cases hlong : 8 < n
  · have hlongI : 8 < (n : Int) := by omega
    go_enter Tryz.func3, Tryz.ntmps3
    go_wp2_with fail
    go_ret
    exact ⟨rfl, (stepN (w0 := w)).chg⟩
  have hlongI : ¬ 8 < (n : Int) := by omega
  have HAR := Lib.hid hr.out
  have HXL := Lib.hid hl
  obtain ⟨i1, hi1⟩ : ∃ i : Nat, i = 1 := ⟨1, rfl⟩
  obtain ⟨i2, hi2⟩ : ∃ i : Nat, i = 2 := ⟨2, rfl⟩
  have kb1 : ∀ w, (Instr.build 26 #[(0, .int .u8 1)]).run Tryz.prog w = .ok (.agg (u8s (seedN i1).l)) w := fun w => by rw [hi1]; exact build_s1 w
  have kb2 : ∀ w, (Instr.build 26 #[(0, .int .u8 2)]).run Tryz.prog w = .ok (.agg (u8s (seedN i2).l)) w := fun w => by rw [hi2]; exact build_s2 w
  have HI1 : Hid (i1 < 3 ∧ i2 < 3 ∧ i1 ≠ i2) := Lib.hid (by omega)
  clear hi1 hi2 hl
  go_enter Tryz.func3, Tryz.ntmps3
  go_wp2_with (first | ((with_reducible apply wpl_build); (exact run_hB4 _)))
  refine (dirNew_calls (hB 4) _).mono ?_
  rintro e w1 ⟨zd, zr, z0, z1, rfl, st1, D1⟩
  have nw1 : Nw w w1 := ⟨st1.chg⟩
  have hdl := D1.hd.out.lt
  have hrl := D1.hr.out.lt
  go_wp2_with (first | ((with_reducible apply wpl_build); (exact kb1 _)))
  refine (rnew_calls (seedN i1) 0 _).mono ?_
  rw [show min (max (0 : Int) 0) 16 = 0 by decide, show pubS (seedN i1) = pubN i1 from rfl]
  rintro e w2 ⟨zk, L, lc, rfl, st2, nk, nL, oLk, hlc, hbk, hoL⟩
  have q1 : w1.heap.size ≤ zk := nk.out
  go_wp2_with (first | ((with_reducible apply wpl_build); (exact kb2 _)))
  refine (rnew_calls (seedN i2) 0 _).mono ?_
  rw [show min (max (0 : Int) 0) 16 = 0 by decide, show pubS (seedN i2) = pubN i2 from rfl]
  rintro e w3 ⟨zo, Lo, lo, rfl, st3, no, nLo, oLo, hlo, hbo, hoo⟩
  have D3 := (D1.step (w' := w2)).step (w' := w3)
  have q2 : w2.heap.size ≤ zo := no.out
  have q12 : w1.heap.size ≤ w2.heap.size := st2.chg.size
  have q23 : w2.heap.size ≤ w3.heap.size := st3.chg.size
  have hkl := hbk.out.lt
  have hol := hbo.out.lt
  have hbk3 : HB w3 zk 33 (refL (seedN i1) L 16 lc (pubN i1) 0).toArray := inferInstance
  have nw3 : Nw w w3 := inferInstance
  have aL : ∀ ad, L = some ad → w1.heap.size ≤ ad.block ∧ ad.block < w3.heap.size := fun ad e => ⟨nL.out ad e, Nat.lt_of_lt_of_le (hoL.out.lt e) q23⟩
  have aLo : ∀ ad, Lo = some ad → w1.heap.size ≤ ad.block ∧ ad.block < w3.heap.size := fun ad e => ⟨Nat.le_trans q12 (nLo.out ad e), hoo.out.lt e⟩
  have HD3 := Lib.hid D3
  clear D1 D3
  go_wp2_with (first | ((with_reducible apply (wpl_loadpartH (k := 33))); (exact rfl); infer_instance; infer_instance; (exact ref_pub)) | ((with_reducible apply (wpl_guard (op := .load _ _))); (exact rfl)) | ((with_reducible apply (wpl_guard (op := .fieldAddr _ _ _))); (exact rfl)))
  refine (enrNewC_calls HD3.out [97] [104] (pubN i1) (by decide +kernel) (by decide +kernel) riseE_nil (fun k h => by cases h) (show 0 < 4 by decide)).mono ?_
  rintro e w4 ⟨A', c', rfl, nw4, st4, hA4, D4⟩
  have hA5 : ∀ ad, A' = some ad → w3.heap.size ≤ ad.block := fun ad e => (hA4 ad e).elim (fun h => absurd (show (none : Option Addr) = some ad from h.symm.trans e) (by simp)) id
  have st4' : Step (only zd) w3 w4 := ⟨(Chg.refl (only zd) w3).trans st4.chg (fun x hx h => by
    rcases h with h | ⟨ad, e, hk⟩ | ⟨ad, e, hk⟩
    · exact h
    · exact absurd (show (none : Option Addr) = some ad from e) (by simp)
    · have := hA5 ad e
      omega)⟩
  clear st4
  have o1 : OffB (only zd) zk := ⟨fun e => by have e' : zk = zd := e; omega⟩
  have o2 : OffB (only zd) zo := ⟨fun e => by have e' : zo = zd := e; omega⟩
  have o3 : OffA (only zd) L := ⟨fun ad e h => by have := (aL ad e).1; have h' : ad.block = zd := h; omega⟩
  have o4 : OffA (only zd) Lo := ⟨fun ad e h => by have := (aLo ad e).1; have h' : ad.block = zd := h; omega⟩
  have p1 : OffB (rowOf A') zk := ⟨fun ⟨ad, e, h⟩ => by have := hA5 ad e; omega⟩
  have p2 : OffB (rowOf A') zo := ⟨fun ⟨ad, e, h⟩ => by have := hA5 ad e; omega⟩
  have p3 : OffA (rowOf A') L := ⟨fun ad e ⟨bd, e2, h⟩ => by have := (aL ad e).2; have := hA5 bd e2; omega⟩
  have p4 : OffA (rowOf A') Lo := ⟨fun ad e ⟨bd, e2, h⟩ => by have := (aLo ad e).2; have := hA5 bd e2; omega⟩
  have okk : OffB (only zk) zo := ⟨fun e => by have e' : zo = zk := e; omega⟩
  have oko : OffB (only zo) zk := ⟨fun e => by have e' : zk = zo := e; omega⟩
  have r1 : OffA (only zk) L := inferInstance
  have r2 : OffA (only zo) Lo := inferInstance
  have r3 : OffA (only zk) Lo := ⟨fun ad e h => by have := nLo.out ad e; have h' : ad.block = zk := h; omega⟩
  have r4 : OffA (only zo) L := ⟨fun ad e h => by have := hoL.out.lt e; have h' : ad.block = zo := h; omega⟩
  have hk4 : HB w4 zk 33 (refL (seedN i1) L 16 lc (pubN i1) 0).toArray := inferInstance
  have ho4 : HB w4 zo 33 (refL (seedN i2) Lo 16 lo (pubN i2) 0).toArray := inferInstance
  have hL4 : HR w4 L (cellsOf (leavesS (seedN i1))) := inferInstance
  have hLo4 : HR w4 Lo (cellsOf (leavesS (seedN i2))) := inferInstance
  obtain ⟨S0, hSA, hSB, hSn, D5⟩ : ∃ S0 : DS, S0.A = A' ∧ S0.B = none ∧ S0.n = 1 ∧ DrAt w w4 zd zr (S0.setL [e97 (pubN i1) false rp0]) := ⟨{ DS.new (hB 4) z0 z1 with A := A', n := 1, c := c' }, rfl, rfl, rfl, D4⟩
  have HSA := Lib.hid hSA
  have HSB := Lib.hid hSB
  have HSn := Lib.hid hSn
  have HD5 : Hid (OnceD w w4 zd zr S0 (pubN i1) (-1)) := Lib.hid ⟨false, rp0, D5, rfl, fun h => by omega⟩
  clear D4 D5 hSA hSB hSn hA4 HD3
  have hoff : ∀ (z : Nat) (l : List EnrR) (v v' : World), w1.heap.size ≤ z → z < w3.heap.size → Step (only z) v v' → DrAt w v zd zr (S0.setL l) → DrAt w v' zd zr (S0.setL l) := fun z l v v' h1 h2 st D => D.offs st (fun e => by have e' : zd = z := e; omega) (fun e => by have e' : zr = z := e; omega) (fun ad e h => by have h' : ad.block = z := h; have := hA5 ad (HSA.out.symm.trans e); omega) (fun bd e => absurd (HSB.out.symm.trans e) (by simp))
  have HOFF := Lib.hid hoff
  have aA' : Above w (rowOf A') := ⟨fun y ⟨ad, e, h⟩ => by have := hA5 ad e; have := nw3.out.size; omega⟩
  have ak : Above w (only zk) := ⟨fun y h => by have h' : y = zk := h; have := nw1.out.size; omega⟩
  have ao : Above w (only zo) := ⟨fun y h => by have h' : y = zo := h; have := nw1.out.size; omega⟩
  have HW3 : Hid (w1.heap.size ≤ zk ∧ zk < w3.heap.size ∧ w1.heap.size ≤ zo ∧ zo < w3.heap.size) := Lib.hid (by omega)
  clear hoff
  go_wp2_with fail
  go_loopw [6, 7] (fun lv iv wr => ∃ (k : Nat) (la : Int), k ≤ n ∧ lv = .int .i64 la ∧ iv = .int .i64 (k : Int) ∧ (-1 ≤ la ∧ la ≤ 1023) ∧ Nw w wr ∧ HB wr zk 33 (refL (seedN i1) L 16 lc (pubN i1) (k : Int)).toArray ∧ HR wr L (cellsOf (leavesS (seedN i1))) ∧ HB wr zo 33 (refL (seedN i2) Lo 16 lo (pubN i2) (k : Int)).toArray ∧ HR wr Lo (cellsOf (leavesS (seedN i2))) ∧ Hid (OnceD w wr zd zr S0 (pubN i1) la)) (fun _ iv _ => n - (intOf iv).toNat)
  case atStart => exact ⟨0, -1, Nat.zero_le _, rfl, rfl, by omega, nw4, hk4, hL4, ho4, hLo4, HD5⟩
  case round =>
    clear hk4 ho4 hL4 hLo4 HD5 nw4
    obtain ⟨k, la, hk, rfl, rfl, ⟨hla1, hla2⟩, nwr, hkr, hLr, hor, hLor, HOD⟩ := hrel
    by_cases hlt : k < n
    · have hltI : (k : Int) < n := by omega
      have hxr : HR wr A (i64l x) := ⟨HAR.out.later nwr.out⟩
      obtain ⟨q, p, D, hq, hp⟩ := HOD.out
      have hAlt : ∀ bd, A' = some bd → bd.block < wr.heap.size := fun bd e => D.ha.out.lt (HSA.out.trans e)
      have HD := Lib.hid D
      have HQ := Lib.hid hq
      have HP := Lib.hid hp
      clear D hq hp HOD
      have hk8 : k < 8 := by omega
      go_wp2_with (first | ((with_reducible apply (wpl_indexI (k := k))); (exact rfl); (exact rfl); infer_instance; (exact hxr); (exact HXL.out); (exact hlt)) | ((with_reducible apply (wpl_loadI (k := k))); (exact rfl); (exact hxr); infer_instance; (rw [HXL.out]; exact hlt)))
      rw [i64_and1023]
      obtain ⟨N, hN⟩ : ∃ N, N = iget x k % 1024 := ⟨_, rfl⟩
      rw [← hN]
      have hN0 : 0 ≤ N := by omega
      have hN1 : N ≤ 1023 := by omega
      clear hN
      refine (report_calls (zk := zk) (i := i1) (u := k) N (by omega) hN0 (by omega) hlc).mono ?_
      have hbk := rp_back N hN0 (by omega)
      have hbl := rpM_len N
      unfold RpPost
      obtain ⟨b, hb⟩ : ∃ b, b = rpM N := ⟨_, rfl⟩
      rw [← hb] at hbk hbl ⊢
      have HBK := Lib.hid hbk
      have HBL := Lib.hid hbl
      clear hb hbk hbl
      rintro e w5 ⟨M, nb, cb, Ar, r, rfl, st5, hk5, hM5, hA5r, nM, nAr, nrA, nrB, HQ5⟩
      have hk5' : HB w5 zk 33 (refL (seedN i1) L 16 lc (pubN i1) ((k + 1 : Nat) : Int)).toArray := by
        rw [show ((k + 1 : Nat) : Int) = (k : Int) + 1 by omega]
        exact hk5
      have D5 := HOFF.out zk _ _ _ HW3.out.1 HW3.out.2.1 st5 HD.out
      have hrA : HR w5 r.A (cellsOf r.l) := ⟨HQ5.out.2.2.1.1⟩
      have hrB : HR w5 r.B (cellsOf r.p) := ⟨HQ5.out.2.2.1.2⟩
      have s5 : wr.heap.size ≤ w5.heap.size := st5.chg.size
      have oM : OffA (rowOf A') M := ⟨fun ad e ⟨bd, e2, h⟩ => by have := nM.out ad e; have := hAlt bd e2; omega⟩
      have oAr : OffA (rowOf A') Ar := ⟨fun ad e ⟨bd, e2, h⟩ => by have := nAr.out ad e; have := hAlt bd e2; omega⟩
      have orA : OffA (rowOf A') r.A := ⟨fun ad e ⟨bd, e2, h⟩ => by have := nrA.out ad e; have := hAlt bd e2; omega⟩
      have orB : OffA (rowOf A') r.B := ⟨fun ad e ⟨bd, e2, h⟩ => by have := nrB.out ad e; have := hAlt bd e2; omega⟩
      have nw5 : Nw w w5 := inferInstance
      have hmet : meetsB b [r] [pubN i1] 1 = true := by
        rw [meets_one b i1 i1 k r HQ5.out.2.2.2 HI1.out.1 HI1.out.1 (by omega)]
        simp
      have HMET := Lib.hid hmet
      have HD5 := Lib.hid D5
      have hn9 : nb ≤ 1000000 := by
        have := HQ5.out.1
        have := HBL.out
        omega
      clear hk5 D5 hmet nM nAr nrA nrB HD
      go_wp2_with (first | ((with_reducible apply (wpl_alloc (dst := some 9))); intro z9 wz9 _ _ _) | ((with_reducible apply wpl_loadrow); (exact rfl); infer_instance; infer_instance; (first | (with_reducible assumption) | (with_reducible exact H32.size _) | (with_reducible exact enc_sz _ rfl) | kernel_rfl)) | ((with_reducible apply wpl_storerow); (exact rfl); (exact rfl); infer_instance; infer_instance; (first | (with_reducible assumption) | (with_reducible exact H32.size _) | (with_reducible exact enc_sz _ rfl) | kernel_rfl); (first | (with_reducible assumption) | (with_reducible exact H32.size _) | (with_reducible exact enc_sz _ rfl) | kernel_rfl); (first | (with_reducible exact u8s_one _) | (with_reducible assumption) | (with_reducible exact enc_one _) | kernel_rfl); intro ws _ _))
      have D6 : DrAt w ws zd zr (S0.setL [e97 (pubN i1) q p]) := @DrAt.step _ _ _ _ _ _ HD5.out stepN
      have z9N : wr.heap.size ≤ z9 := by
        rw [(inferInstance : Born _ z9).eq]
        exact s5
      have oz9 : OffB (rowOf A') z9 := ⟨fun ⟨bd, e2, h⟩ => by have := hAlt bd e2; omega⟩
      have hmi6 : ∀ y ∈ [r], MarkIn ws y := fun y hy => by
        rw [List.mem_singleton.1 hy]
        exact ⟨(inferInstance : HR ws r.A (cellsOf r.l)).out, (inferInstance : HR ws r.B (cellsOf r.p)).out⟩
      by_cases hnew : la < N
      · have hold : (q && decide ((repOf b).k ≤ p.k)) = false := by
          rw [HQ.out, HBK.out.2.2]
          by_cases h0 : 0 ≤ la
          · rw [HP.out h0]
            simp
            omega
          · simp
            omega
        have hpk : (repOf b).k = max la N := by
          rw [HBK.out.2.2]
          omega
        have hq1 : false = true → q = true := fun h => by
          cases h
        obtain ⟨p', hp'⟩ : ∃ p', p' = repOf b := ⟨_, rfl⟩
        refine (accept_calls D6 hmi6 rfl (Nat.le_refl _) (show 1 ≤ 9223372036854775807 by decide) HQ5.out.1 HQ5.out.2.1 hn9 HBK.out.1 (e97_rise _ _ _) 0 (show 0 < 1 by decide) HBK.out.2.1 (show S0.n ≤ 1000000 by rw [HSn.out]; decide) q p rfl true false HMET.out hold).mono ?_
        rintro e w6 ⟨he, nw6, st6, D7⟩
        obtain rfl : e = .returned (.int .i64 0) := he
        have st6' : Step (rowOf A') ws w6 := by
          rw [← HSA.out]
          exact st6
        have D8 : DrAt w w6 zd zr (S0.setL [e97 (pubN i1) true p']) := by
          have h : DrAt w w6 zd zr (S0.setL (accL [e97 (pubN i1) q p] 0 (repOf b) true false)) := D7
          rw [accL_one _ _ _ _ _ hq1] at h
          rw [hp']
          exact h
        have HPK : Hid (p'.k = max la N) := Lib.hid (by rw [hp']; exact hpk)
        have hold2 : (true && decide ((repOf b).k ≤ p'.k)) = true := by
          rw [HPK.out, HBK.out.2.2]
          simp
          omega
        clear st6 D7 D6 hp' hpk hq1 hold hmi6
        have hmi7 : ∀ y ∈ [r], MarkIn w6 y := fun y hy => by
          rw [List.mem_singleton.1 hy]
          exact ⟨(inferInstance : HR w6 r.A (cellsOf r.l)).out, (inferInstance : HR w6 r.B (cellsOf r.p)).out⟩
        go_wp2_with (first | ((with_reducible apply (wpl_guard (op := .load _ _))); (exact rfl)) | ((with_reducible apply wpl_loadrow); (exact rfl); infer_instance; infer_instance; (first | (with_reducible assumption) | (with_reducible exact H32.size _) | (with_reducible exact enc_sz _ rfl) | kernel_rfl)))
        refine (accept_calls D8 hmi7 rfl (Nat.le_refl _) (show 1 ≤ 9223372036854775807 by decide) HQ5.out.1 HQ5.out.2.1 hn9 HBK.out.1 (e97_rise _ _ _) 0 (show 0 < 1 by decide) HBK.out.2.1 (show S0.n ≤ 1000000 by rw [HSn.out]; decide) true p' rfl true true HMET.out hold2).mono ?_
        rintro e w8 ⟨he, nw8, st8, D9⟩
        obtain rfl : e = .returned (.int .i64 5) := he
        have st8' : Step (rowOf A') w6 w8 := by
          rw [← HSA.out]
          exact st8
        have D10 : DrAt w w8 zd zr (S0.setL [e97 (pubN i1) true p']) := D9
        clear st8 D9 D8 hold2 hmi7
        have HD10 := Lib.hid D10
        clear D10
        go_wp2_with fail
        refine (report_calls (zk := zo) (i := i2) (u := k) (2000 + (k : Int)) (by omega) (by omega) (by omega) hlo).mono ?_
        have hbk2 := rp_back (2000 + (k : Int)) (by omega) (by omega)
        have hbl2 := rpM_len (2000 + (k : Int))
        unfold RpPost
        obtain ⟨b2, hb2⟩ : ∃ b, b = rpM (2000 + (k : Int)) := ⟨_, rfl⟩
        rw [← hb2] at hbk2 hbl2 ⊢
        have HBK2 := Lib.hid hbk2
        have HBL2 := Lib.hid hbl2
        clear hb2 hbk2 hbl2
        rintro e wA ⟨M2, nb2, cb2, Ar2, r2, rfl, stA, hoA, hMA, hArA, nM2, nAr2, nrA2, nrB2, HQ6⟩
        have hoA' : HB wA zo 33 (refL (seedN i2) Lo 16 lo (pubN i2) ((k + 1 : Nat) : Int)).toArray := by
          rw [show ((k + 1 : Nat) : Int) = (k : Int) + 1 by omega]
          exact hoA
        have DA := HOFF.out zo _ _ _ HW3.out.2.2.1 HW3.out.2.2.2 stA HD10.out
        have hmet2 : meetsB b2 [r2] [pubN i1] 1 = false := by
          rw [meets_one b2 i1 i2 k r2 HQ6.out.2.2.2 HI1.out.1 HI1.out.2.1 (by omega)]
          have := HI1.out.2.2
          simp
          omega
        have hmiA : ∀ y ∈ [r2], MarkIn wA y := fun y hy => by
          rw [List.mem_singleton.1 hy]
          exact HQ6.out.2.2.1
        have hn92 : nb2 ≤ 1000000 := by
          have := HQ6.out.1
          have := HBL2.out
          omega
        have nwA : Nw w wA := inferInstance
        clear hoA
        go_wp2_with fail
        refine (accept_calls DA hmiA rfl (Nat.le_refl _) (show 1 ≤ 9223372036854775807 by decide) HQ6.out.1 HQ6.out.2.1 hn92 HBK2.out.1 (e97_rise _ _ _) 0 (show 0 < 1 by decide) HBK2.out.2.1 (show S0.n ≤ 1000000 by rw [HSn.out]; decide) true p' rfl false _ hmet2 rfl).mono ?_
        rintro e wB ⟨he, nwB, stB, DB⟩
        obtain rfl : e = .returned (.int .i64 4) := he
        have stB' : Step (rowOf A') wA wB := by
          rw [← HSA.out]
          exact stB
        have DC : DrAt w wB zd zr (S0.setL [e97 (pubN i1) true p']) := DB
        obtain ⟨S1, hS1⟩ : ∃ S1, S1 = S0.setL [e97 (pubN i1) true p'] := ⟨_, rfl⟩
        have hS1n : S1.n = 1 := by
          rw [hS1]
          exact HSn.out
        have hS1L : S1.L = [e97 (pubN i1) true p'] := by rw [hS1]; rfl
        have HS1 := Lib.hid hS1
        rw [← hS1] at DC
        have hdB := DC.hd
        have haB := DC.ha
        have hlB := DC.hl
        have HDC := Lib.hid DC
        have htB : ∀ i, i < S1.n → (gt S1.L i).tl = tlR true p' := fun i hi => by
          rw [hS1L]
          have : i = 0 := by omega
          subst this
          rfl
        have hS16 : S1.n ≤ 1000000 := by omega
        clear stB DB DA hS1 DC hmiA hmet2
        go_wp2_with fail
        refine (invN_calls (fun _ => true) (fun _ => p') hlB hS16 htB).mono ?_
        rintro e wC ⟨Bv, m, d, rfl, stC, hoC, nBv, HM⟩
        have hm1 : m = 1 := by
          have h := HM.out
          rw [hS1n] at h
          exact h.symm
        subst hm1
        rw [hS1n] at hoC
        have hvC : HR wC Bv (cellsOf [p']) := ⟨hoC.out.rd⟩
        have hc35 : nth (RowC.enc (gt [p'] 0)) 35 = some (.int .i64 (max la N)) := by
          rw [← HPK.out]
          exact rep_at35 p'.u p'.n p'.h p'.c p'.k
        have HC35 := Lib.hid hc35
        have hlv : [p'].length = 1 := rfl
        clear hc35 hoC HM
        go_wp2_with (first | ((with_reducible apply (wpl_loadF (α := RepR) (k := 0) (j := 35) (s := 36))); infer_instance; (exact rfl); (exact hvC); (exact rfl); (exact (show 0 < 1 by decide)); (exact HC35.out)) | ((with_reducible apply (wpl_guard (op := .load _ _))); (exact rfl)) | ((with_reducible apply (wpl_guard (op := .indexAddr _ _ _))); (exact rfl)) | ((with_reducible apply (wpl_guard (op := .fieldAddr _ _ _))); (exact rfl)) | ((with_reducible apply (wpl_indexE (α := RepR) (t := 40))); (exact rfl); (exact rfl); infer_instance; infer_instance; (first | (with_reducible assumption) | omega | (focus (simp; done)) | (focus (simp; omega; done)) | decide); (exact rfl); (decide); (first | (with_reducible assumption) | omega | (focus (simp; done)) | (focus (simp; omega; done)) | decide)) | ((with_reducible apply (wpl_fieldE (t := 43))); (exact Tryz.underlying43); (exact rfl); (kernel_rfl); (exact rfl); infer_instance; (exact cells_pos (by decide) (by omega))))
        have hkC : HB wC zk 33 (refL (seedN i1) L 16 lc (pubN i1) ((k + 1 : Nat) : Int)).toArray := inferInstance
        have hoC2 : HB wC zo 33 (refL (seedN i2) Lo 16 lo (pubN i2) ((k + 1 : Nat) : Int)).toArray := inferInstance
        have hLC : HR wC L (cellsOf (leavesS (seedN i1))) := inferInstance
        have hLoC : HR wC Lo (cellsOf (leavesS (seedN i2))) := inferInstance
        have nwC : Nw w wC := inferInstance
        have DC2 := @DrAt.step _ _ _ _ _ _ HDC.out stC
        have HOC : Hid (OnceD w wC zd zr S0 (pubN i1) (max la N)) := Lib.hid ⟨true, p', by rw [← HS1.out]; exact DC2, (decide_eq_true (by omega)).symm, fun _ => HPK.out⟩
        refine ⟨⟨k + 1, max la N, by omega, rfl, by go_num, by omega, nwC, hkC, hLC, hoC2, hLoC, HOC⟩, by simp [intOf]; omega⟩
      · have hold : (q && decide ((repOf b).k ≤ p.k)) = true := by
          rw [HQ.out, HBK.out.2.2]
          by_cases h0 : 0 ≤ la
          · rw [HP.out h0]
            simp
            omega
          · simp
            omega
        have hpk : (p).k = max la N := by
          rw [HP.out (by omega)]
          omega
        have hq1 : true = true → q = true := fun h => by
          rw [HQ.out]
          simp
          omega
        obtain ⟨p', hp'⟩ : ∃ p', p' = p := ⟨_, rfl⟩
        refine (accept_calls D6 hmi6 rfl (Nat.le_refl _) (show 1 ≤ 9223372036854775807 by decide) HQ5.out.1 HQ5.out.2.1 hn9 HBK.out.1 (e97_rise _ _ _) 0 (show 0 < 1 by decide) HBK.out.2.1 (show S0.n ≤ 1000000 by rw [HSn.out]; decide) q p rfl true true HMET.out hold).mono ?_
        rintro e w6 ⟨he, nw6, st6, D7⟩
        obtain rfl : e = .returned (.int .i64 5) := he
        have st6' : Step (rowOf A') ws w6 := by
          rw [← HSA.out]
          exact st6
        have D8 : DrAt w w6 zd zr (S0.setL [e97 (pubN i1) true p']) := by
          have h : DrAt w w6 zd zr (S0.setL (accL [e97 (pubN i1) q p] 0 (repOf b) true true)) := D7
          rw [accL_one _ _ _ _ _ hq1] at h
          rw [hp']
          exact h
        have HPK : Hid (p'.k = max la N) := Lib.hid (by rw [hp']; exact hpk)
        have hold2 : (true && decide ((repOf b).k ≤ p'.k)) = true := by
          rw [HPK.out, HBK.out.2.2]
          simp
          omega
        clear st6 D7 D6 hp' hpk hq1 hold hmi6
        have hge : N ≤ la := by omega
        have hdl2 : decide (la < N) = false := by simp [hnew]
        have tq : HB w6 z9 37 #[.slice M nb cb, .slice Ar 1 1] := inferInstance
        have hmi7 : ∀ y ∈ [r], MarkIn w6 y := fun y hy => by
          rw [List.mem_singleton.1 hy]
          exact ⟨(inferInstance : HR w6 r.A (cellsOf r.l)).out, (inferInstance : HR w6 r.B (cellsOf r.p)).out⟩
        go_wp2_with (first | ((with_reducible apply (wpl_guard (op := .load _ _))); (exact rfl)) | ((with_reducible apply wpl_loadrow); (exact rfl); infer_instance; infer_instance; (first | (with_reducible assumption) | (with_reducible exact H32.size _) | (with_reducible exact enc_sz _ rfl) | kernel_rfl)))
        refine (accept_calls D8 hmi7 rfl (Nat.le_refl _) (show 1 ≤ 9223372036854775807 by decide) HQ5.out.1 HQ5.out.2.1 hn9 HBK.out.1 (e97_rise _ _ _) 0 (show 0 < 1 by decide) HBK.out.2.1 (show S0.n ≤ 1000000 by rw [HSn.out]; decide) true p' rfl true true HMET.out hold2).mono ?_
        rintro e w8 ⟨he, nw8, st8, D9⟩
        obtain rfl : e = .returned (.int .i64 5) := he
        have st8' : Step (rowOf A') w6 w8 := by
          rw [← HSA.out]
          exact st8
        have D10 : DrAt w w8 zd zr (S0.setL [e97 (pubN i1) true p']) := D9
        clear st8 D9 D8 hold2 hmi7
        have HD10 := Lib.hid D10
        clear D10
        go_wp2_with fail
        refine (report_calls (zk := zo) (i := i2) (u := k) (2000 + (k : Int)) (by omega) (by omega) (by omega) hlo).mono ?_
        have hbk2 := rp_back (2000 + (k : Int)) (by omega) (by omega)
        have hbl2 := rpM_len (2000 + (k : Int))
        unfold RpPost
        obtain ⟨b2, hb2⟩ : ∃ b, b = rpM (2000 + (k : Int)) := ⟨_, rfl⟩
        rw [← hb2] at hbk2 hbl2 ⊢
        have HBK2 := Lib.hid hbk2
        have HBL2 := Lib.hid hbl2
        clear hb2 hbk2 hbl2
        rintro e wA ⟨M2, nb2, cb2, Ar2, r2, rfl, stA, hoA, hMA, hArA, nM2, nAr2, nrA2, nrB2, HQ6⟩
        have hoA' : HB wA zo 33 (refL (seedN i2) Lo 16 lo (pubN i2) ((k + 1 : Nat) : Int)).toArray := by
          rw [show ((k + 1 : Nat) : Int) = (k : Int) + 1 by omega]
          exact hoA
        have DA := HOFF.out zo _ _ _ HW3.out.2.2.1 HW3.out.2.2.2 stA HD10.out
        have hmet2 : meetsB b2 [r2] [pubN i1] 1 = false := by
          rw [meets_one b2 i1 i2 k r2 HQ6.out.2.2.2 HI1.out.1 HI1.out.2.1 (by omega)]
          have := HI1.out.2.2
          simp
          omega
        have hmiA : ∀ y ∈ [r2], MarkIn wA y := fun y hy => by
          rw [List.mem_singleton.1 hy]
          exact HQ6.out.2.2.1
        have hn92 : nb2 ≤ 1000000 := by
          have := HQ6.out.1
          have := HBL2.out
          omega
        have nwA : Nw w wA := inferInstance
        clear hoA
        go_wp2_with fail
        refine (accept_calls DA hmiA rfl (Nat.le_refl _) (show 1 ≤ 9223372036854775807 by decide) HQ6.out.1 HQ6.out.2.1 hn92 HBK2.out.1 (e97_rise _ _ _) 0 (show 0 < 1 by decide) HBK2.out.2.1 (show S0.n ≤ 1000000 by rw [HSn.out]; decide) true p' rfl false _ hmet2 rfl).mono ?_
        rintro e wB ⟨he, nwB, stB, DB⟩
        obtain rfl : e = .returned (.int .i64 4) := he
        have stB' : Step (rowOf A') wA wB := by
          rw [← HSA.out]
          exact stB
        have DC : DrAt w wB zd zr (S0.setL [e97 (pubN i1) true p']) := DB
        obtain ⟨S1, hS1⟩ : ∃ S1, S1 = S0.setL [e97 (pubN i1) true p'] := ⟨_, rfl⟩
        have hS1n : S1.n = 1 := by
          rw [hS1]
          exact HSn.out
        have hS1L : S1.L = [e97 (pubN i1) true p'] := by rw [hS1]; rfl
        have HS1 := Lib.hid hS1
        rw [← hS1] at DC
        have hdB := DC.hd
        have haB := DC.ha
        have hlB := DC.hl
        have HDC := Lib.hid DC
        have htB : ∀ i, i < S1.n → (gt S1.L i).tl = tlR true p' := fun i hi => by
          rw [hS1L]
          have : i = 0 := by omega
          subst this
          rfl
        have hS16 : S1.n ≤ 1000000 := by omega
        clear stB DB DA hS1 DC hmiA hmet2
        go_wp2_with fail
        refine (invN_calls (fun _ => true) (fun _ => p') hlB hS16 htB).mono ?_
        rintro e wC ⟨Bv, m, d, rfl, stC, hoC, nBv, HM⟩
        have hm1 : m = 1 := by
          have h := HM.out
          rw [hS1n] at h
          exact h.symm
        subst hm1
        rw [hS1n] at hoC
        have hvC : HR wC Bv (cellsOf [p']) := ⟨hoC.out.rd⟩
        have hc35 : nth (RowC.enc (gt [p'] 0)) 35 = some (.int .i64 (max la N)) := by
          rw [← HPK.out]
          exact rep_at35 p'.u p'.n p'.h p'.c p'.k
        have HC35 := Lib.hid hc35
        have hlv : [p'].length = 1 := rfl
        clear hc35 hoC HM
        go_wp2_with (first | ((with_reducible apply (wpl_loadF (α := RepR) (k := 0) (j := 35) (s := 36))); infer_instance; (exact rfl); (exact hvC); (exact rfl); (exact (show 0 < 1 by decide)); (exact HC35.out)) | ((with_reducible apply (wpl_guard (op := .load _ _))); (exact rfl)) | ((with_reducible apply (wpl_guard (op := .indexAddr _ _ _))); (exact rfl)) | ((with_reducible apply (wpl_guard (op := .fieldAddr _ _ _))); (exact rfl)) | ((with_reducible apply (wpl_indexE (α := RepR) (t := 40))); (exact rfl); (exact rfl); infer_instance; infer_instance; (first | (with_reducible assumption) | omega | (focus (simp; done)) | (focus (simp; omega; done)) | decide); (exact rfl); (decide); (first | (with_reducible assumption) | omega | (focus (simp; done)) | (focus (simp; omega; done)) | decide)) | ((with_reducible apply (wpl_fieldE (t := 43))); (exact Tryz.underlying43); (exact rfl); (kernel_rfl); (exact rfl); infer_instance; (exact cells_pos (by decide) (by omega))))
        have hkC : HB wC zk 33 (refL (seedN i1) L 16 lc (pubN i1) ((k + 1 : Nat) : Int)).toArray := inferInstance
        have hoC2 : HB wC zo 33 (refL (seedN i2) Lo 16 lo (pubN i2) ((k + 1 : Nat) : Int)).toArray := inferInstance
        have hLC : HR wC L (cellsOf (leavesS (seedN i1))) := inferInstance
        have hLoC : HR wC Lo (cellsOf (leavesS (seedN i2))) := inferInstance
        have nwC : Nw w wC := inferInstance
        have DC2 := @DrAt.step _ _ _ _ _ _ HDC.out stC
        have HOC : Hid (OnceD w wC zd zr S0 (pubN i1) (max la N)) := Lib.hid ⟨true, p', by rw [← HS1.out]; exact DC2, (decide_eq_true (by omega)).symm, fun _ => HPK.out⟩
        refine ⟨⟨k + 1, max la N, by omega, rfl, by go_num, by omega, nwC, hkC, hLC, hoC2, hLoC, HOC⟩, by simp [intOf]; omega⟩
    · have hltI : ¬ (k : Int) < n := by omega
      go_wp2_with fail
      refine (dknown_calls _).mono ?_
      rintro e wz ⟨rfl, stz⟩
      go_wp2_with fail
      go_ret
      exact ⟨rfl, (stepN (w0 := w)).chg⟩
end Go.Proofs.YtmnapacibpnodaaGreat
