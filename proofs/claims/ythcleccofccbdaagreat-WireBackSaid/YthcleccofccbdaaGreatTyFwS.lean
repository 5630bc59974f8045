/- FwS -/
import Derived.Test.YthcleccofccbdaaGreatTyFwD
import Derived.Test.YthcleccofccbdaaGreatTyFwF
import Derived.Test.YthcleccofccbdaaGreatTyFwN
import Derived.Test.YthcleccofccbdaaGreatTyFwP
import Derived.Test.YthcleccofccbdaaGreatTyPlain
import Derived.Test.YthcleccofccbdaaGreatTySnE
import Derived.Test.YthcleccofccbdaaGreatTySnH
import Derived.Test.YthcleccofccbdaaGreatTyRoM
import Derived.Test.YthcleccofccbdaaGreatTyWsB
import Derived.Deep.DeepCutAuto
open Go Go.RowKit
namespace Go.Proofs.YthcleccofccbdaaGreat
theorem keysE_m (K : List KR) : keysE K = keysB (K.map KR.m) := by
  unfold keysE keysB
  rw [List.flatMap_map]
  rfl
theorem rootOk_len {v e0 : Int} {K : List KR} (h : rootOk v e0 K = true) (h4 : K.length = 4) : (rootE v e0 (K.map KR.m)).length ≤ 1000 := by
  have h1 := h
  unfold rootOk at h1
  rw [Bool.and_eq_true, Bool.and_eq_true] at h1
  have h2 := List.all_eq_true.1 h1.2
  have hk : ∀ (L : List KR), (∀ k ∈ L, keyOk k = true) → (keysE L).length ≤ 146 * L.length := by
    intro L
    induction L with
    | nil => intro _; exact Nat.zero_le _
    | cons a L ih =>
      intro hL
      have e : keysE (a :: L) = keyB a.l a.need ++ keysE L := rfl
      have g1 := ih (fun k hk => hL k (List.mem_cons_of_mem _ hk))
      have g2 := (isB_in (hL a (List.mem_cons_self ..))).1
      have g3 := keyB_len a.l a.need
      rw [e, List.length_append, List.length_cons]
      omega
  have h3 := hk K h2
  have h5 := encAll_len [1]
  have h6 := encAll_len [v, e0]
  rw [rootE, ← keysE_m]
  simp only [List.length_append, List.length_cons, List.length_nil] at *
  omega
theorem snapE_len {v e0 : Int} {P : List PinR} (h : snapOk v e0 P = true) : (snapE v e0 P).length ≤ 1000 := by
  obtain ⟨h1, h2, h3, h4⟩ := snapOk_in h
  have hk : ∀ (L : List PinR), (∀ p ∈ L, pinOk p = true) → (pinsE L).length ≤ 30 * L.length := by
    intro L
    induction L with
    | nil => intro _; exact Nat.zero_le _
    | cons a L ih =>
      intro hL
      have e : pinsE (a :: L) = pinE a ++ pinsE L := rfl
      have g1 := ih (fun k hk => hL k (List.mem_cons_of_mem _ hk))
      have g2 := hL a (List.mem_cons_self ..)
      unfold pinOk at g2
      rw [Bool.and_eq_true] at g2
      have g3 := nameL_le g2.1
      have g4 := encRow_len a.l (by omega)
      have g5 := encAll_len [a.v]
      rw [e, List.length_append, List.length_cons, pinE, List.length_append]
      simp only [List.length_cons, List.length_nil] at g5
      omega
  have h5 := hk P h4
  have h6 := encAll_len [3]
  have h7 := encAll_len [v, e0]
  have h8 := encAll_len [(P.length : Int)]
  unfold snapE
  simp only [List.length_append, List.length_cons, List.length_nil] at *
  omega
theorem tgsEM_le {nm : List UInt8} {v e0 : Int} {P : List TargetR} {D : List DeleR} (h : tgsOk nm v e0 P D = true) : (tgsEM nm v e0 P (D.map DeleR.m)).length ≤ 100000 := by
  have hin := tgsOk_in h
  have h1 := tgsE_len P hin.2.2.1
  have h2 := dlsE_len D hin.2.2.2.2
  have h3 := nameL_le hin.1
  have h4 := encRow_len nm (by omega)
  have h7 := encAll_len [4]
  have h8 := encAll_len [v, e0]
  have h9 := encAll_len [(P.length : Int)]
  have h10 := encAll_len [((D.map DeleR.m).length : Int)]
  have h11 : ((D.map DeleR.m).flatMap dlME).length = (dlsE D).length := by
    unfold dlsE
    rw [List.flatMap_map]
    rfl
  unfold tgsEM
  simp only [List.length_append, List.length_cons, List.length_nil] at *
  omega
set_option maxRecDepth 100000 in
set_option maxHeartbeats 12800000 in
theorem wireBack_calls (v e0 : Int) (K : List KR) (tv te ts : Int) (th : H32) (sv se : Int) {As : Option Addr} {ns cs : Nat} {Q : List PinR} (nm : List UInt8) (gv ge : Int) {Ap Cp : Option Addr} {np cp mp qp : Nat} {P : List TargetR} {D : List DeleR} (ru rn : ByteArray) (rh : H32) (rc rk : Int) {w : World}
    (h4 : K.length = 4) (hK : ∀ k ∈ K, KIn0 w k) (hn : ∀ k ∈ K, k.n ≤ 4398046511104) [hrs : HR w As (cellsOf Q)] (hql : Q.length = ns) (hns : ns ≤ 9223372036854775807) (hqm : ∀ p ∈ Q, p.l.length ≤ 9223372036854775807)
    [hrp : HR w Ap (cellsOf P)] [hrd : HR w Cp (cellsOf D)] (hpl : P.length = np) (hdl : D.length = mp) (hnp : np ≤ 1466015503700) (hmp : mp ≤ 1954687338769) (hnm : nm.length ≤ 9223372036854775807) (hP : ∀ t ∈ P, t.l.length ≤ 9223372036854775807 ∧ t.hw.length ≤ 9223372036854775807 ∧ t.ecu.length ≤ 9223372036854775807) (hD : ∀ k ∈ D, DInW w k ∧ k.l.length ≤ 9223372036854775807 ∧ k.pre.length ≤ 9223372036854775807)
    (hru : ru.size ≤ 9223372036854775807) (hrn : rn.size ≤ 9223372036854775807) :
    Calls Tryz.prog 4 #[.agg (rtL v e0 K).toArray, .agg (timL tv te ts th).toArray, .agg #[.int .i64 sv, .int .i64 se, .slice As ns cs], .agg #[.string (strL nm), .int .i64 gv, .int .i64 ge, .slice Ap np cp, .slice Cp mp qp], .agg (repL ru rn rh rc rk).toArray] w fun e w' => e = .returned (.bool true) ∧ Chg nowhere w w' := by
  have hlR := rtL_len v e0 K h4
  have hoR := rtL_one v e0 K
  have hlT := timL_len tv te ts th
  have hoT := timL_one tv te ts th
  have hlP := repL_len ru rn rh rc rk
  have hoP := repL_one ru rn rh rc rk
  have H4 := Lib.hid h4
  have HKI := Lib.hid hK
  have HKN := Lib.hid hn
  have HQL := Lib.hid hql
  have HQM := Lib.hid hqm
  have HRS := Lib.hid hrs.out
  have HPL := Lib.hid hpl
  have HDL := Lib.hid hdl
  have HPM := Lib.hid hP
  have HDM := Lib.hid hD
  have HNM := Lib.hid hnm
  have HRU := Lib.hid hru
  have HRN := Lib.hid hrn
  have hK4 : ∃ a b c d, K = [a, b, c, d] := by
    rcases K with _ | ⟨a, _ | ⟨b, _ | ⟨c, _ | ⟨d, _ | ⟨e, l⟩⟩⟩⟩⟩ <;> simp at h4
    exact ⟨a, b, c, d, rfl⟩
  have hsl := sumK_mem K
  obtain ⟨k0, k1, k2, k3, hKe⟩ := hK4
  have g0 : gt K 0 = k0 := by rw [hKe]; rfl
  have g1 : gt K 1 = k1 := by rw [hKe]; rfl
  have g2 : gt K 2 = k2 := by rw [hKe]; rfl
  have g3 : gt K 3 = k3 := by rw [hKe]; rfl
  have kb4 := run_keys4 k0 k1 k2 k3
  rw [← hKe, ← g0, ← g1, ← g2, ← g3] at kb4
  have l0 : 0 < K.length := by omega
  have l1 : 1 < K.length := by omega
  have l2 : 2 < K.length := by omega
  have l3 : 3 < K.length := by omega
  have hnp9 : np ≤ 9223372036854775807 := by omega
  have hmp9 : mp ≤ 9223372036854775807 := by omega
  clear hKe g0 g1 g2 g3 hK hn hql hqm hpl hdl hP hD hnm hru hrn h4
  obtain ⟨R, hR⟩ : ∃ R, R = decide (60 < sumK K) := ⟨_, rfl⟩
  have HR0 := Lib.hid hR
  have HSL := Lib.hid hsl
  clear hR hsl
  go_enter Tryz.func4, Tryz.ntmps4
  go_wp2_with (first | ((with_reducible apply (wpl_box_agg (dst := some 5))); (exact rfl); intro zr wzr _ _ _) | ((with_reducible apply (wpl_box_agg (dst := some 6))); (exact rfl); intro zt wzt _ _ _) | ((with_reducible apply (wpl_box_agg (dst := some 7))); (exact rfl); intro zs wzs _ _ _) | ((with_reducible apply (wpl_box_agg (dst := some 8))); (exact rfl); intro zg wzg _ _ _) | ((with_reducible apply (wpl_box_agg (dst := some 9))); (exact rfl); intro zp wzp _ _ _) | ((with_reducible apply wpl_loadrow); (exact rfl); infer_instance; infer_instance; (first | (with_reducible assumption) | (with_reducible exact H32.size _) | kernel_rfl)))
  refine (heavy_calls nm gv ge (P := P) (D := D) HPL.out HDL.out hnp9 hmp9).mono ?_
  rintro e w1 ⟨⟨B, rfl⟩, _⟩
  cases B
  case true =>
    go_wp2_with (first | go_skip)
    go_ret
    exact ⟨rfl, (stepN (w0 := w)).chg⟩
  by_cases c1 : 40 < ns
  · have c1I : 40 < (ns : Int) := by omega
    go_wp2_with (first | go_skip | ((with_reducible apply (wpl_guard (op := .load _ _))); (exact rfl)) | ((with_reducible apply (wpl_guard (op := .call _))); (exact rfl)) | ((with_reducible apply (wpl_guard (op := .fieldAddr _ _ _))); (exact rfl)) | ((with_reducible apply wpl_loadcellN); (exact rfl); infer_instance; (exact rfl)))
    go_ret
    exact ⟨rfl, (stepN (w0 := w)).chg⟩
  have c1I : ¬ 40 < (ns : Int) := by omega
  have c1B : decide ((40 : Int) < (ns : Int)) = false := decide_eq_false c1I
  go_wp2_with (first | ((with_reducible apply (stop_dst (dst := some 45))); (with_reducible apply (wpl_indexRK (i := 0) (m := 4))); (exact rfl); (exact rfl); (exact Tryz.underlying43); (kernel_rfl); (decide)) | ((with_reducible apply (stop_dst (dst := some 48))); (with_reducible apply (wpl_indexRK (i := 1) (m := 4))); (exact rfl); (exact rfl); (exact Tryz.underlying43); (kernel_rfl); (decide)) | ((with_reducible apply (stop_dst (dst := some 51))); (with_reducible apply (wpl_indexRK (i := 2) (m := 4))); (exact rfl); (exact rfl); (exact Tryz.underlying43); (kernel_rfl); (decide)) | ((with_reducible apply (stop_dst (dst := some 54))); (with_reducible apply (wpl_indexRK (i := 3) (m := 4))); (exact rfl); (exact rfl); (exact Tryz.underlying43); (kernel_rfl); (decide)) | ((with_reducible apply (stop_dst (dst := some 46))); (with_reducible apply (wpl_loadRK (i := 0))); (exact rfl); infer_instance; infer_instance; (exact l0)) | ((with_reducible apply (stop_dst (dst := some 49))); (with_reducible apply (wpl_loadRK (i := 1))); (exact rfl); infer_instance; infer_instance; (exact l1)) | ((with_reducible apply (stop_dst (dst := some 52))); (with_reducible apply (wpl_loadRK (i := 2))); (exact rfl); infer_instance; infer_instance; (exact l2)) | ((with_reducible apply (stop_dst (dst := some 55))); (with_reducible apply (wpl_loadRK (i := 3))); (exact rfl); infer_instance; infer_instance; (exact l3)) | ((with_reducible apply (stop_dst (dst := some 56))); (try simp only [Act.put, sA, sB, sC]); ((with_reducible apply (wpl_bslice (dst := some 56))); (exact kb4 _); intro zk wb _ _ _)) | ((with_reducible apply (wpl_guard (op := .load _ _))); (exact rfl)) | ((with_reducible apply (wpl_guard (op := .call _))); (exact rfl)) | ((with_reducible apply (wpl_guard (op := .indexAddr _ _ _))); (exact rfl)) | ((with_reducible apply (wpl_guard (op := .fieldAddr _ _ _))); (exact rfl)) | ((with_reducible apply (wpl_guard (op := .buildSlice _ _ _))); (exact rfl)) | ((with_reducible apply wpl_loadcellN); (exact rfl); infer_instance; (exact rfl)))
  have hrk : HR wb (some ⟨zk, 0, none⟩) (cellsOf K) := HB.keys (inferInstance : HB wb zk 42 (cellsOf K).toArray)
  refine (many_calls (K := K) H4.out HKN.out).mono ?_
  rw [← HR0.out]
  rintro e w2 ⟨rfl, _⟩
  cases R
  case true =>
    go_wp2_with fail
    go_ret
    exact ⟨rfl, (stepN (w0 := w)).chg⟩
  have hsum : ∀ k ∈ K, k.n ≤ 1000 := fun k hk => by
    have h1 := HSL.out k hk
    have h2 : ¬ 60 < sumK K := of_decide_eq_false HR0.out.symm
    omega
  have HKK : Hid (∀ k ∈ K, KIn w k) := Lib.hid (fun k hk => ⟨(HKI.out k hk).rd, (HKI.out k hk).len, (HKI.out k hk).cap, hsum k hk⟩)
  clear hsum
  have hbr2 : HB w2 zr 45 (rtL v e0 K).toArray := inferInstance
  have hbt2 : HB w2 zt 49 (timL tv te ts th).toArray := inferInstance
  have hbs2 : HB w2 zs 52 #[.int .i64 sv, .int .i64 se, .slice As ns cs] := inferInstance
  have hbg2 : HB w2 zg 25 #[.string (strL nm), .int .i64 gv, .int .i64 ge, .slice Ap np cp, .slice Cp mp qp] := inferInstance
  have hbp2 : HB w2 zp 54 (repL ru rn rh rc rk).toArray := inferInstance
  have st2 : Step nowhere w w2 := stepN
  go_wp2_with (first | ((with_reducible apply wpl_loadrow); (exact rfl); infer_instance; infer_instance; (exact hlR)))
  refine (rIsRoot_calls v e0 K H4.out (fun k hk => KIn.nw (w0 := w) (HKK.out k hk))).mono ?_
  obtain ⟨B0, hB0⟩ : ∃ B, B = rootOk v e0 K := ⟨_, rfl⟩
  have HB0 := Lib.hid hB0
  rw [← hB0]
  rintro e w3 ⟨rfl, _⟩
  clear hB0
  go_upto_if 60 with fail
  go_cut [] from 11 (fun wx => Step nowhere w wx ∧ HB wx zr 45 (rtL v e0 K).toArray ∧ HB wx zt 49 (timL tv te ts th).toArray ∧ HB wx zs 52 #[.int .i64 sv, .int .i64 se, .slice As ns cs] ∧ HB wx zg 25 #[.string (strL nm), .int .i64 gv, .int .i64 ge, .slice Ap np cp, .slice Cp mp qp] ∧ HB wx zp 54 (repL ru rn rh rc rk).toArray)
  case first =>
    cases B0
    case false =>
      go_wp2_with fail
      go_meet
      case rel => exact ⟨stepN, inferInstance, inferInstance, inferInstance, inferInstance, inferInstance⟩
    case true =>
      have hok : rootOk v e0 K = true := HB0.out.symm
      have hokb : rootB v e0 (K.map KR.m) = true := by rw [rootOk_m]; exact hok
      obtain ⟨Y, hY⟩ : ∃ Y, Y = rootE v e0 (K.map KR.m) := ⟨_, rfl⟩
      have HY : Hid (encAll [1] ++ (encAll [v, e0] ++ keysE K) = Y) := Lib.hid (by rw [hY, rootE, keysE_m])
      have HYL : Hid (Y.length ≤ 1000) := Lib.hid (by rw [hY]; exact rootOk_len hok H4.out)
      have HYM : Hid (rtM Y = (v, e0, K.map KR.m, 0)) := Lib.hid (by rw [hY]; exact root_fwd hokb (by rw [List.length_map]; exact H4.out))
      have HYT : Hid (tOk Y = false) := Lib.hid (by rw [hY, rootE]; exact tOk_other (j := 1) (by decide) (by decide) _)
      clear hok hokb hY
      go_wp2_with (first | ((with_reducible apply wpl_loadrow); (exact rfl); infer_instance; infer_instance; (exact hlR)))
      refine (EncodeRoot_calls v e0 K H4.out (fun k hk => KIn.nw (w0 := w) (HKK.out k hk))).mono ?_
      rw [← HB0.out, HY.out]
      rintro e w4 ⟨_, A1, n1, c1', rfl, hn1, hO1, hA1⟩
      have HN1 := Lib.hid hn1
      have hR1 : HR w4 A1 (bs Y) := ⟨hO1.out.rd⟩
      have hn9 : n1 ≤ 1000 := by have := HYL.out; omega
      clear hn1 hO1 hA1
      go_wp2_with fail
      refine (DecodeRoot_calls (b := Y) HN1.out.symm (by omega)).mono ?_
      rintro e w5 ⟨_, v1, x1, L, err, rfl, hL, hLs⟩
      have hq0 := hL.out.2.trans HYM.out
      obtain ⟨rfl, hq1⟩ := Prod.mk.inj hq0
      obtain ⟨rfl, hq2⟩ := Prod.mk.inj hq1
      obtain ⟨hq3, rfl⟩ := Prod.mk.inj hq2
      have HMM := Lib.hid hq3.symm
      have HL4 := Lib.hid hL.out.1
      have hl5 := rtL_len v1 x1 L hL.out.1
      have ho5 := rtL_one v1 x1 L
      clear hq0 hq1 hq2 hq3 hL
      go_wp2_with (first | ((with_reducible apply (wpl_alloc (dst := some 13))); intro z13 wz13 _ _ _) | ((with_reducible apply wpl_storerow); (exact rfl); (exact rfl); infer_instance; infer_instance; (first | (with_reducible assumption) | (with_reducible exact H32.size _) | kernel_rfl); (first | (with_reducible assumption) | (with_reducible exact H32.size _) | kernel_rfl); (first | (with_reducible exact u8s_one _) | (with_reducible assumption) | kernel_rfl); intro ws _ _))
      have hz5 : HB ws z13 45 (rtL v1 x1 L).toArray := inferInstance
      have n55 : Nw w5 ws := inferInstance
      refine (DecodeTime_calls (b := Y) HN1.out.symm (by omega)).mono ?_
      rintro e w6 ⟨_, he⟩
      rw [if_neg (by rw [HYT.out]; decide)] at he
      obtain rfl : e = _ := he
      have hz0 := timL_len 0 0 0 zeroH
      have hy0 := timL_one 0 0 0 zeroH
      go_wp2_with (first | ((with_reducible apply wpl_storerow); (exact rfl); (exact rfl); infer_instance; infer_instance; (exact hz0); (exact hz0); (exact hy0); intro ws _ _) | ((with_reducible apply wpl_loadrow); (exact rfl); infer_instance; infer_instance; (exact hlR)) | ((with_reducible apply wpl_loadrow); (exact rfl); infer_instance; infer_instance; (exact hl5)) | ((with_reducible apply (wpl_guard (op := .load _ _))); (exact rfl)) | ((with_reducible apply (wpl_guard (op := .call _))); (exact rfl)) | ((with_reducible apply (wpl_alloc (dst := some 15))); intro z15 wz15 _ _ _))
      have n57 : Nw w5 ws := inferInstance
      refine (sameRoot_calls v1 x1 K L H4.out HL4.out (fun k hk => KIn.nw (w0 := w) (HKK.out k hk)) (fun k hk => KIn.chg (hLs.out k hk).1 n57.out (fun _ _ h => h)) HMM.out).mono ?_
      rintro e w7 ⟨rfl, _⟩
      go_wp2_with fail
      go_meet
      case rel => exact ⟨stepN, inferInstance, inferInstance, inferInstance, inferInstance, inferInstance⟩
  case rest =>
  clear hbr2 hbt2 hbs2 hbg2 hbp2 st2
  have hcut9 := hcut
  obtain ⟨st, hbr, hbt, hbs, hbg, hbp⟩ := hcut9
  have nrc : Nw w wc := ⟨st.chg⟩
  generalize wc = wA1 at *
  clear hcut
  go_wp2_with (first | ((with_reducible apply wpl_loadrow); (exact rfl); infer_instance; infer_instance; (exact hlT)))
  refine (rIsTime_calls tv te ts th _).mono ?_
  obtain ⟨B1, hB1⟩ : ∃ B, B = timB tv te ts := ⟨_, rfl⟩
  have HB1 := Lib.hid hB1
  rw [← hB1]
  rintro e w3 ⟨rfl, _⟩
  clear hB1
  go_upto_if 89 with fail
  go_cut [] from 11 (fun wx => Step nowhere w wx ∧ HB wx zr 45 (rtL v e0 K).toArray ∧ HB wx zt 49 (timL tv te ts th).toArray ∧ HB wx zs 52 #[.int .i64 sv, .int .i64 se, .slice As ns cs] ∧ HB wx zg 25 #[.string (strL nm), .int .i64 gv, .int .i64 ge, .slice Ap np cp, .slice Cp mp qp] ∧ HB wx zp 54 (repL ru rn rh rc rk).toArray)
  case first =>
    cases B1
    case false =>
      go_wp2_with fail
      go_meet
      case rel => exact ⟨stepN, inferInstance, inferInstance, inferInstance, inferInstance, inferInstance⟩
    case true =>
      have hok : timB tv te ts = true := HB1.out.symm
      obtain ⟨Y, hY⟩ : ∃ Y, Y = timE tv te ts th := ⟨_, rfl⟩
      have HY : Hid (encAll [2] ++ (encAll [tv, te, ts] ++ th.l) = Y) := Lib.hid (by rw [hY, timE])
      have HYL : Hid (Y.length ≤ 1000) := Lib.hid (by
        have h5 := encAll_len [2]
        have h6 := encAll_len [tv, te, ts]
        have h7 := th.len
        rw [hY, timE]
        simp only [List.length_append, List.length_cons, List.length_nil] at *
        omega)
      have HYM : Hid (tOk Y = true ∧ timD Y = (timL tv te ts th).toArray) := Lib.hid (by rw [hY]; exact tim_fwd hok th)
      have HYT : Hid (snOk Y = false) := Lib.hid (by rw [hY, timE]; exact snOk_other (j := 2) (by decide) (by decide) _)
      have hnq : ∀ w, (binOp .neq 49 (.agg (timL tv te ts th).toArray) (.agg (timL tv te ts th).toArray)).run Tryz.prog w = .ok (.bool false) w := fun w => by
        have h9 := neqTim ⟨tv, te, ts, th⟩ ⟨tv, te, ts, th⟩ w
        have h8 : tmB ⟨tv, te, ts, th⟩ ⟨tv, te, ts, th⟩ = true := by simp [tmB]
        rw [h8] at h9
        exact h9
      clear hok hY
      go_wp2_with (first | ((with_reducible apply wpl_loadrow); (exact rfl); infer_instance; infer_instance; (exact hlT)))
      refine (EncodeTime_calls tv te ts th _).mono ?_
      rw [← HB1.out, HY.out]
      rintro e w4 ⟨_, A1, n1, c1', rfl, hn1, hO1, hA1⟩
      have HN1 := Lib.hid hn1
      have hR1 : HR w4 A1 (bs Y) := ⟨hO1.out.rd⟩
      have hn9 : n1 ≤ 100000 := by have := HYL.out; omega
      clear hn1 hO1 hA1
      go_wp2_with fail
      refine (DecodeTime_calls (b := Y) HN1.out.symm (by omega)).mono ?_
      rintro e w5 ⟨_, he⟩
      rw [if_pos HYM.out.1, HYM.out.2] at he
      obtain rfl : e = _ := he
      have hz0 := timL_len 0 0 0 zeroH
      go_wp2_with (first | ((with_reducible apply (wpl_alloc (dst := some 19))); intro z19 wz19 _ _ _) | ((with_reducible apply wpl_storerow); (exact rfl); (exact rfl); infer_instance; infer_instance; (first | (with_reducible assumption) | (with_reducible exact H32.size _) | kernel_rfl); (first | (with_reducible assumption) | (with_reducible exact H32.size _) | kernel_rfl); (first | (with_reducible exact u8s_one _) | (with_reducible assumption) | kernel_rfl); intro ws _ _))
      have hz5 : HB ws z19 49 (timL tv te ts th).toArray := inferInstance
      refine (DecodeSnap_calls (b := Y) HN1.out.symm (by omega)).mono ?_
      rintro e w6 ⟨_, v1, x1, A2, n2, c2, P2, err, rfl, hP, _, _⟩
      have hq0 := hP.out.1
      rw [snM, if_neg (by rw [HYT.out]; decide)] at hq0
      obtain ⟨_, hq1⟩ := Prod.mk.inj hq0
      obtain ⟨_, hq2⟩ := Prod.mk.inj hq1
      obtain ⟨_, rfl⟩ := Prod.mk.inj hq2
      clear hq0 hq1 hq2 hP
      have nw6 : Nw w w6 := inferInstance
      go_wp2_with (first | ((with_reducible apply wpl_loadrow); (exact rfl); infer_instance; infer_instance; (exact hlT)) | ((with_reducible apply (wpl_guard (op := .load _ _))); (exact rfl)) | ((with_reducible apply (wpl_alloc (dst := some 21))); intro z21 wz21 _ _ _) | ((with_reducible apply wpl_storerow); (exact rfl); (exact rfl); infer_instance; infer_instance; (first | (with_reducible assumption) | (with_reducible exact H32.size _) | kernel_rfl); (first | (with_reducible assumption) | (with_reducible exact H32.size _) | kernel_rfl); (first | (with_reducible exact u8s_one _) | (with_reducible assumption) | kernel_rfl); intro ws _ _))
      go_meet
      case rel => exact ⟨stepN, inferInstance, inferInstance, inferInstance, inferInstance, inferInstance⟩
  case rest =>
  clear st hbr hbt hbs hbg hbp nrc
  have hcut9 := hcut
  obtain ⟨st, hbr, hbt, hbs, hbg, hbp⟩ := hcut9
  have nrc : Nw w wc := ⟨st.chg⟩
  generalize wc = wA2 at *
  clear hcut
  go_wp2_with (first | ((with_reducible apply wpl_loadrow); (exact rfl); infer_instance; infer_instance; (first | (with_reducible assumption) | (with_reducible exact H32.size _) | kernel_rfl)))
  refine (rIsSnap_calls sv se (P := Q) (hr := ⟨HRS.out.later st.chg⟩) HQL.out (by omega) HQM.out).mono ?_
  obtain ⟨B2, hB2⟩ : ∃ B, B = snapOk sv se Q := ⟨_, rfl⟩
  have HB2 := Lib.hid hB2
  rw [← hB2]
  rintro e w3 ⟨rfl, _⟩
  clear hB2
  go_upto_if 117 with fail
  go_cut [] from 11 (fun wx => Step nowhere w wx ∧ HB wx zr 45 (rtL v e0 K).toArray ∧ HB wx zt 49 (timL tv te ts th).toArray ∧ HB wx zs 52 #[.int .i64 sv, .int .i64 se, .slice As ns cs] ∧ HB wx zg 25 #[.string (strL nm), .int .i64 gv, .int .i64 ge, .slice Ap np cp, .slice Cp mp qp] ∧ HB wx zp 54 (repL ru rn rh rc rk).toArray)
  case first =>
    cases B2
    case false =>
      go_wp2_with fail
      go_meet
      case rel => exact ⟨stepN, inferInstance, inferInstance, inferInstance, inferInstance, inferInstance⟩
    case true =>
      have hok : snapOk sv se Q = true := HB2.out.symm
      obtain ⟨Y, hY⟩ : ∃ Y, Y = snapE sv se Q := ⟨_, rfl⟩
      have HY : Hid (snapE sv se Q = Y) := Lib.hid hY.symm
      have HYL : Hid (Y.length ≤ 1000) := Lib.hid (by rw [hY]; exact snapE_len hok)
      have HYM : Hid (snM Y = (sv, se, Q, 0)) := Lib.hid (by rw [hY]; exact snap_fwd hok)
      clear hok hY
      have hrs3 : HR w3 As (cellsOf Q) := inferInstance
      go_wp2_with (first | ((with_reducible apply wpl_loadrow); (exact rfl); infer_instance; infer_instance; (first | (with_reducible assumption) | (with_reducible exact H32.size _) | kernel_rfl)))
      refine (EncodeSnap_calls sv se (P := Q) HQL.out hns).mono ?_
      rw [← HB2.out, HY.out]
      rintro e w4 ⟨_, A1, n1, c1', rfl, hn1, hO1, hA1⟩
      have HN1 := Lib.hid hn1
      have hR1 : HR w4 A1 (bs Y) := ⟨hO1.out.rd⟩
      have hn9 : n1 ≤ 100000 := by have := HYL.out; omega
      clear hn1 hO1 hA1
      go_wp2_with fail
      refine (DecodeSnap_calls (b := Y) HN1.out.symm (by omega)).mono ?_
      rintro e w6 ⟨_, v1, x1, A2, n2, c2, P2, err, rfl, hP, hRd, _⟩
      have hq0 := hP.out.1.trans HYM.out
      obtain ⟨rfl, hq1⟩ := Prod.mk.inj hq0
      obtain ⟨rfl, hq2⟩ := Prod.mk.inj hq1
      obtain ⟨hq3, rfl⟩ := Prod.mk.inj hq2
      have hn2 : ns = n2 := by rw [← HQL.out, ← hP.out.2.1, hq3]
      subst hq3 hn2
      clear hq0 hq1 hq2 hP
      have nw6 : Nw w w6 := inferInstance
      have hbs6 : HB w6 zs 52 #[.int .i64 v1, .int .i64 x1, .slice As ns cs] := inferInstance
      go_wp2_with (first | ((with_reducible apply (wpl_guard (op := .load _ _))); (exact rfl)) | ((with_reducible apply (wpl_guard (op := .call _))); (exact rfl)) | ((with_reducible apply (wpl_alloc (dst := some 25))); intro z25 wz25 _ _ _) | ((with_reducible apply wpl_loadrow); (exact rfl); infer_instance; infer_instance; (first | (with_reducible assumption) | (with_reducible exact H32.size _) | kernel_rfl)) | ((with_reducible apply wpl_storerow); (exact rfl); (exact rfl); infer_instance; infer_instance; (first | (with_reducible assumption) | (with_reducible exact H32.size _) | kernel_rfl); (first | (with_reducible assumption) | (with_reducible exact H32.size _) | kernel_rfl); (first | (with_reducible exact u8s_one _) | (with_reducible assumption) | kernel_rfl); intro ws _ _))
      have nw7 : Nw w6 ws := inferInstance
      have nw8 : Nw w ws := inferInstance
      have hrA : HR ws As (cellsOf P2) := ⟨HRS.out.later nw8.out⟩
      have hrB : HR ws A2 (cellsOf P2) := ⟨hRd.out.chg nw7.out (fun _ _ _ h => h)⟩
      refine (sameSnap_calls v1 x1 (P := P2) HQL.out (by omega)).mono ?_
      rintro e w7 ⟨rfl, _⟩
      go_wp2_with fail
      go_meet
      case rel => exact ⟨stepN, inferInstance, inferInstance, inferInstance, inferInstance, inferInstance⟩
  case rest =>
  clear st hbr hbt hbs hbg hbp nrc
  have hcut9 := hcut
  obtain ⟨st, hbr, hbt, hbs, hbg, hbp⟩ := hcut9
  have nrc : Nw w wc := ⟨st.chg⟩
  generalize wc = wA3 at *
  clear hcut
  go_wp2_with (first | ((with_reducible apply wpl_loadrow); (exact rfl); infer_instance; infer_instance; (first | (with_reducible assumption) | (with_reducible exact H32.size _) | kernel_rfl)))
  refine (rIsTargets_calls nm gv ge (P := P) (D := D) (hr := inferInstance) (hq := inferInstance) HPL.out HDL.out hnp hmp HNM.out HPM.out (fun k hk => ⟨DInW.nw (w0 := w) (HDM.out k hk).1, (HDM.out k hk).2⟩)).mono ?_
  obtain ⟨B3, hB3⟩ : ∃ B, B = tgsOk nm gv ge P D := ⟨_, rfl⟩
  have HB3 := Lib.hid hB3
  rw [← hB3]
  rintro e w3 ⟨rfl, _⟩
  clear hB3
  go_upto_if 137 with fail
  go_cut [] from 11 (fun wx => Step nowhere w wx ∧ HB wx zr 45 (rtL v e0 K).toArray ∧ HB wx zt 49 (timL tv te ts th).toArray ∧ HB wx zs 52 #[.int .i64 sv, .int .i64 se, .slice As ns cs] ∧ HB wx zg 25 #[.string (strL nm), .int .i64 gv, .int .i64 ge, .slice Ap np cp, .slice Cp mp qp] ∧ HB wx zp 54 (repL ru rn rh rc rk).toArray)
  case first =>
    cases B3
    case false =>
      go_wp2_with fail
      go_meet
      case rel => exact ⟨stepN, inferInstance, inferInstance, inferInstance, inferInstance, inferInstance⟩
    case true =>
      have hok : tgsOk nm gv ge P D = true := HB3.out.symm
      have hokm : tgsOkM nm gv ge P (D.map DeleR.m) = true := by rw [← tgsOk_m]; exact hok
      obtain ⟨Y, hY⟩ : ∃ Y, Y = tgsEM nm gv ge P (D.map DeleR.m) := ⟨_, rfl⟩
      have HY : Hid (encAll [4] ++ tgsB nm gv ge np mp P D = Y) := Lib.hid (by rw [hY]; exact tgsB_m nm gv ge HPL.out HDL.out)
      have HYL : Hid (Y.length ≤ 100000) := Lib.hid (by rw [hY]; exact tgsEM_le hok)
      have HYM : Hid (tgM Y = (nm, gv, ge, P, D.map DeleR.m, 0)) := Lib.hid (by rw [hY]; exact tgM_fwd hokm)
      have HP16 : Hid (np ≤ 16 ∧ mp ≤ 16) := Lib.hid (by
        have h9 := tgsOk_in hok
        rw [← HPL.out, ← HDL.out]
        exact ⟨h9.2.1, h9.2.2.2.1⟩)
      have HDI : Hid (∀ k ∈ D, DIn w k) := Lib.hid (fun k hk => ⟨(HDM.out k hk).1.rd, (HDM.out k hk).1.len, (HDM.out k hk).1.cap, by
        have h8 := List.all_eq_true.1 (tgsOk_in hok).2.2.2.2 k hk
        unfold dlOk isB at h8
        simp only [Bool.and_eq_true, decide_eq_true_eq] at h8
        have h9 := (HDM.out k hk).1.len
        omega⟩)
      clear hok hokm hY
      go_wp2_with (first | ((with_reducible apply wpl_loadrow); (exact rfl); infer_instance; infer_instance; (first | (with_reducible assumption) | (with_reducible exact H32.size _) | kernel_rfl)))
      refine (EncodeTargets_calls nm gv ge (P := P) (D := D) HPL.out HDL.out (fun k hk => DInW.nw (w0 := w) (HDM.out k hk).1) hnp9 hmp9).mono ?_
      rw [← HB3.out, HY.out]
      rintro e w4 ⟨_, A1, n1, c1', rfl, hn1, hO1, hA1⟩
      have HN1 := Lib.hid hn1
      have hR1 : HR w4 A1 (bs Y) := ⟨hO1.out.rd⟩
      have hn9 : n1 ≤ 100000 := by have := HYL.out; omega
      clear hn1 hO1 hA1
      go_wp2_with fail
      refine (DecodeTargets_calls (b := Y) HN1.out.symm (by omega)).mono ?_
      rintro e w6 ⟨_, m1, v1, x1, E1, k1, d1, C1, j1, q1, P1, D1, err, rfl, hP1, hRd1, _, _⟩
      have hq0 := hP1.out.1.trans HYM.out
      obtain ⟨rfl, hq1⟩ := Prod.mk.inj hq0
      obtain ⟨rfl, hq2⟩ := Prod.mk.inj hq1
      obtain ⟨rfl, hq3⟩ := Prod.mk.inj hq2
      obtain ⟨hpp, hq4⟩ := Prod.mk.inj hq3
      obtain ⟨hdd, rfl⟩ := Prod.mk.inj hq4
      have hk12 : np = k1 := by rw [← HPL.out, ← hP1.out.2.1.1, hpp]
      have hj12 : mp = j1 := by
        have h9 := congrArg List.length hdd
        rw [List.length_map, List.length_map, HDL.out, hP1.out.2.2.1] at h9
        exact h9.symm
      subst hpp hk12 hj12
      have HDD := Lib.hid hdd.symm
      have HD1 := Lib.hid hP1.out.2.2.1
      clear hq0 hq1 hq2 hq3 hq4 hdd hP1
      have nw6 : Nw w w6 := inferInstance
      go_wp2_with (first | ((with_reducible apply (wpl_guard (op := .load _ _))); (exact rfl)) | ((with_reducible apply (wpl_guard (op := .call _))); (exact rfl)) | ((with_reducible apply (wpl_alloc (dst := some 29))); intro z29 wz29 _ _ _) | ((with_reducible apply wpl_loadrow); (exact rfl); infer_instance; infer_instance; (first | (with_reducible assumption) | (with_reducible exact H32.size _) | kernel_rfl)) | ((with_reducible apply wpl_storerow); (exact rfl); (exact rfl); infer_instance; infer_instance; (first | (with_reducible assumption) | (with_reducible exact H32.size _) | kernel_rfl); (first | (with_reducible assumption) | (with_reducible exact H32.size _) | kernel_rfl); (first | (with_reducible exact u8s_one _) | (with_reducible assumption) | kernel_rfl); intro ws _ _))
      have nw7 : Nw w6 ws := inferInstance
      have nw8 : Nw w ws := inferInstance
      have hrA : HR ws E1 (cellsOf P1) := ⟨hRd1.out.1.chg nw7.out (fun _ _ _ h => h)⟩
      have hrC : HR ws C1 (cellsOf D1) := ⟨hRd1.out.2.1.chg nw7.out (fun _ _ _ h => h)⟩
      refine (sameTargets_calls m1 v1 x1 (P := P1) (D := D) (F := D1) HPL.out (by have := HP16.out; omega) HDL.out HD1.out (by have := HP16.out; omega) (fun k hk => KIn.nw (w0 := w) (HDI.out k hk)) (fun k hk => KIn.chg (hRd1.out.2.2 k hk).1 nw7.out (fun _ _ h => h)) HDD.out).mono ?_
      rintro e w7 ⟨rfl, _⟩
      go_wp2_with fail
      go_meet
      case rel => exact ⟨stepN, inferInstance, inferInstance, inferInstance, inferInstance, inferInstance⟩
  case rest =>
  clear st hbr hbt hbs hbg hbp nrc
  have hcut9 := hcut
  obtain ⟨st, hbr, hbt, hbs, hbg, hbp⟩ := hcut9
  have nrc : Nw w wc := ⟨st.chg⟩
  generalize wc = wA4 at *
  clear hcut
  go_wp2_with (first | ((with_reducible apply wpl_loadrow); (exact rfl); infer_instance; infer_instance; (exact hlP)))
  refine (rIsReport_calls ru rn rh rc rk ru.data.toList rn.data.toList rfl rfl HRU.out HRN.out _).mono ?_
  obtain ⟨B4, hB4⟩ : ∃ B, B = repB ru.data.toList rn.data.toList rc rk := ⟨_, rfl⟩
  have HB4 := Lib.hid hB4
  rw [← hB4]
  rintro e w3 ⟨rfl, _⟩
  clear hB4
  go_upto_if 157 with fail
  go_cut [] from 11 (fun wx => Step nowhere w wx ∧ HB wx zr 45 (rtL v e0 K).toArray ∧ HB wx zt 49 (timL tv te ts th).toArray ∧ HB wx zs 52 #[.int .i64 sv, .int .i64 se, .slice As ns cs] ∧ HB wx zg 25 #[.string (strL nm), .int .i64 gv, .int .i64 ge, .slice Ap np cp, .slice Cp mp qp] ∧ HB wx zp 54 (repL ru rn rh rc rk).toArray)
  case first =>
    cases B4
    case false =>
      go_wp2_with fail
      go_meet
      case rel => exact ⟨stepN, inferInstance, inferInstance, inferInstance, inferInstance, inferInstance⟩
    case true =>
      have hok : repB ru.data.toList rn.data.toList rc rk = true := HB4.out.symm
      obtain ⟨Y, hY⟩ : ∃ Y, Y = repE ru.data.toList rn.data.toList rh rc rk := ⟨_, rfl⟩
      have HY : Hid (encAll [5] ++ (encRow ru.data.toList ++ (encRow rn.data.toList ++ (rh.l ++ encAll [rc, rk]))) = Y) := Lib.hid (by rw [hY, repE])
      have HYL : Hid (Y.length ≤ 1000) := Lib.hid (by
        have h0 := repB_in hok
        have h5 := encAll_len [5]
        have h6 := encAll_len [rc, rk]
        have h7 := rh.len
        have h8 := encRow_len ru.data.toList (by omega)
        have h9 := encRow_len rn.data.toList (by omega)
        rw [hY, repE]
        simp only [List.length_append, List.length_cons, List.length_nil] at *
        omega)
      have HYM : Hid (rOk Y = true ∧ repD Y = (repL ru rn rh rc rk).toArray) := Lib.hid (by
        have h9 := rep_fwd hok rh
        rw [← strL_eta, ← strL_eta] at h9
        rw [hY]
        exact h9)
      have hnq : ∀ w, (binOp .neq 54 (.agg (repL ru rn rh rc rk).toArray) (.agg (repL ru rn rh rc rk).toArray)).run Tryz.prog w = .ok (.bool false) w := fun w => by
        have h9 := neqRep ⟨ru, rn, rh, rc, rk⟩ ⟨ru, rn, rh, rc, rk⟩ w
        have h8 : rpB ⟨ru, rn, rh, rc, rk⟩ ⟨ru, rn, rh, rc, rk⟩ = true := by simp [rpB]
        rw [h8] at h9
        exact h9
      clear hok hY
      go_wp2_with (first | ((with_reducible apply wpl_loadrow); (exact rfl); infer_instance; infer_instance; (exact hlP)))
      refine (EncodeReport_calls ru rn rh rc rk ru.data.toList rn.data.toList rfl rfl _).mono ?_
      rw [← HB4.out, HY.out]
      rintro e w4 ⟨_, A1, n1, c1', rfl, hn1, hO1, hA1⟩
      have HN1 := Lib.hid hn1
      have hR1 : HR w4 A1 (bs Y) := ⟨hO1.out.rd⟩
      have hn9 : n1 ≤ 100000 := by have := HYL.out; omega
      clear hn1 hO1 hA1
      go_wp2_with fail
      refine (DecodeReport_calls (b := Y) HN1.out.symm (by omega)).mono ?_
      rintro e w5 ⟨_, he⟩
      rw [if_pos HYM.out.1, HYM.out.2] at he
      obtain rfl : e = _ := he
      have hz0 := repL_len ⟨#[]⟩ ⟨#[]⟩ zeroH 0 0
      have nw5 : Nw w w5 := inferInstance
      go_wp2_with (first | ((with_reducible apply wpl_loadrow); (exact rfl); infer_instance; infer_instance; (exact hlP)) | ((with_reducible apply (wpl_guard (op := .load _ _))); (exact rfl)) | ((with_reducible apply (wpl_alloc (dst := some 33))); intro z33 wz33 _ _ _) | ((with_reducible apply wpl_storerow); (exact rfl); (exact rfl); infer_instance; infer_instance; (first | (with_reducible assumption) | (with_reducible exact H32.size _) | kernel_rfl); (first | (with_reducible assumption) | (with_reducible exact H32.size _) | kernel_rfl); (first | (with_reducible exact u8s_one _) | (with_reducible assumption) | kernel_rfl); intro ws _ _))
      go_meet
      case rel => exact ⟨stepN, inferInstance, inferInstance, inferInstance, inferInstance, inferInstance⟩
  case rest =>
  clear st hbr hbt hbs hbg hbp nrc
  have hcut9 := hcut
  obtain ⟨st, hbr, hbt, hbs, hbg, hbp⟩ := hcut9
  have nrc : Nw w wc := ⟨st.chg⟩
  generalize wc = wA5 at *
  clear hcut
  go_wp2_with fail
  refine (wknown_calls _).mono ?_
  rintro e w10 ⟨rfl, _⟩
  go_wp2_with fail
  go_ret
  exact ⟨rfl, (stepN (w0 := w)).chg⟩
end Go.Proofs.YthcleccofccbdaaGreat
