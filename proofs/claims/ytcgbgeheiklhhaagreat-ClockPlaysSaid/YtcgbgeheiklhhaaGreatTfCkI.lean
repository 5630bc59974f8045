/- CkI -/
import Derived.Test.YtcgbgeheiklhhaaGreatTfCkE
import Derived.Test.YtcgbgeheiklhhaaGreatTfKyP
open Go Go.RowKit
namespace Go.Proofs.YtcgbgeheiklhhaaGreat
theorem rrAt_of (w : World) (z : Nat) {A : Option Addr} {n c : Nat} {b : List UInt8} (hb : HB w z 81 #[.slice A n c, .bool false]) (hr : Rd w A (bs b)) (hn : b.length = n) (hc : n ≤ c) (hz : b ≠ [] → ∀ ad, A = some ad → ad.block ≠ z) : ∃ d, RRAt w z d ⟨b, false⟩ := by
  by_cases h0 : b = []
  · exact ⟨z + 1, ⟨⟨A, n, c, hn.symm, hc, hb.out, hr, fun ad e h => absurd h0 h⟩, by omega, fun h => by cases h⟩⟩
  · obtain ⟨ad, e, _⟩ := hr.lt (by rw [bs_length]; exact List.length_pos_iff.2 h0)
    exact ⟨ad.block, ⟨⟨A, n, c, hn.symm, hc, hb.out, hr, fun ad' e' _ => by rw [e] at e'; injection e' with e'; rw [e']⟩, hz h0 ad e, fun h => by cases h⟩⟩
theorem rckNum_calls (n : Int) (w : World) : Calls Tryz.prog 20 #[.int .i64 n] w fun e w' => e = .returned (.bool (numC n)) ∧ Step nowhere w w' := by
  by_cases h1 : 0 ≤ n
  · by_cases h2 : n ≤ 1073741824
    · have e : numC n = true := by simp [numC, h1, h2]
      rw [e]
      clear e
      go_enter Tryz.func20, Tryz.ntmps20
      go_wp2_with fail
      go_ret
      exact ⟨rfl, stepN⟩
    · have e : numC n = false := by simp [numC, h2]
      rw [e]
      clear e
      go_enter Tryz.func20, Tryz.ntmps20
      go_wp2_with fail
      go_ret
      exact ⟨rfl, stepN⟩
  · have e : numC n = false := by simp [numC, h1]
    rw [e]
    clear e
    go_enter Tryz.func20, Tryz.ntmps20
    go_wp2_with fail
    go_ret
    exact ⟨rfl, stepN⟩
set_option maxRecDepth 100000 in
set_option maxHeartbeats 1600000 in
theorem rcheck_calls {m : List UInt8} {nb cb n c : Nat} {M A : Option Addr} {l : List MarkR} (pub : H32) (nonce : Int) {w : World} [hm : HR w M (bs m)] [hr : HR w A (cellsOf l)] (hM : ∀ r ∈ l, MarkIn w r) (hl : l.length = n) (hmax : n ≤ 9223372036854775807) (hlm : m.length = nb) (hcap : nb ≤ cb) (hn : nb ≤ 1000000000) :
    Calls Tryz.prog 11 #[.agg (u8s pub.l), .agg #[.slice M nb cb, .slice A n c], .int .i64 nonce] w fun e w' => e = .returned (.tuple #[.int .i64 (chkS (meetsB m l [pub] 1) m nonce).1, .int .i64 (chkS (meetsB m l [pub] 1) m nonce).2]) ∧ Step nowhere w w' := by
  have kbs := run_oneH pub
  have kb2 : ∀ (z : Nat) w, (Instr.build 74 #[(0, .slice (some ⟨z, 0, none⟩) 1 1), (1, .int .i64 1)]).run Tryz.prog w = .ok (.agg #[.slice (some ⟨z, 0, none⟩) 1 1, .int .i64 1]) w := fun _ _ => by kernel_rfl
  have kbR : ∀ w, (Instr.build 81 #[(0, .slice M nb cb)]).run Tryz.prog w = .ok (.agg #[.slice M nb cb, .bool false]) w := fun _ => by kernel_rfl
  obtain ⟨B, hB⟩ : ∃ B, B = meetsB m l [pub] 1 := ⟨_, rfl⟩
  have HB1 := Lib.hid hB
  have HMI := Lib.hid hM
  have HM := Lib.hid hlm
  have HL := Lib.hid hl
  have HMR := Lib.hid hm.out
  obtain ⟨R, hR⟩ : ∃ R, R = chkS B m nonce := ⟨_, rfl⟩
  have HR1 := Lib.hid hR
  rw [← hB, ← hR]
  clear hM hlm hl hB hR
  go_enter Tryz.func11, Tryz.ntmps11
  go_wp2_with (first | ((with_reducible apply (stop_dst (dst := some 14))); (try simp only [Act.put, sA, sB, sC]); ((with_reducible apply (wpl_bslice (dst := some 14))); (exact kbs _); intro zs wb _ _ _)) | ((with_reducible apply wpl_build); (exact kb2 _ _)) | ((with_reducible apply (wpl_box_agg (dst := some 3))); (exact rfl); intro zp wzp _ _ _) | ((with_reducible apply (wpl_box_agg (dst := some 4))); (exact rfl); intro ze wze _ _ _) | ((with_reducible apply wpl_loadrow); (exact rfl); infer_instance; infer_instance; (first | (with_reducible assumption) | (with_reducible exact H32.size _) | (with_reducible exact enc_sz _ rfl) | kernel_rfl)))
  have hzs : HB wb zs 23 (u8s pub.l) := inferInstance
  have hrs : HR wb (some ⟨zs, 0, none⟩) (cellsOf [pub]) := by
    have h : HR wb (some ⟨zs, 0, none⟩) (bs pub.l) := inferInstance
    rwa [show cellsOf [pub] = bs pub.l from List.append_nil _]
  refine (rmeets_calls (l := l) (ks := [pub]) 1 (fun r h => MarkIn.nw (HMI.out r h)) HL.out hmax HM.out (by omega) rfl (show 1 ≤ 10000 by decide)).mono ?_
  rw [← HB1.out]
  rintro e w1 ⟨rfl, _⟩
  cases B with
  | false =>
    have HR2 : Hid (R = (0, 4)) := Lib.hid HR1.out
    clear HR1
    go_wp2_with fail
    go_ret2
    rw [HR2.out]
    exact ⟨rfl, stepN⟩
  | true =>
    obtain ⟨K, hK⟩ : ∃ K, K = ckKind m := ⟨_, rfl⟩
    obtain ⟨Q, hQ⟩ : ∃ Q, Q = ckAsked m := ⟨_, rfl⟩
    obtain ⟨T, hT⟩ : ∃ T, T = ckNow m := ⟨_, rfl⟩
    obtain ⟨V, hV⟩ : ∃ V, V = ckWhole m := ⟨_, rfl⟩
    obtain ⟨NQ, hNQ⟩ : ∃ NQ, NQ = numC Q := ⟨_, rfl⟩
    obtain ⟨NT, hNT⟩ : ∃ NT, NT = numC T := ⟨_, rfl⟩
    have hC : chkS true m nonce = if (V && decide (K = 7) && (NQ && NT)) = false then (0, 2) else if Q = nonce then (T, 0) else (0, 5) := by
      unfold chkS ckForm
      rw [← hV, ← hK, ← hQ, ← hT, ← hNQ, ← hNT]
      rfl
    have HC := Lib.hid (HR1.out.trans hC)
    have HK : Hid ((((⟨m, false⟩ : RS).at 0).num.1 : Int) = K) := Lib.hid hK.symm
    have HQ : Hid ((((⟨m, false⟩ : RS).at 1).num.1 : Int) = Q) := Lib.hid hQ.symm
    have HT : Hid ((((⟨m, false⟩ : RS).at 2).num.1 : Int) = T) := Lib.hid hT.symm
    have HV : Hid ((!((⟨m, false⟩ : RS).at 3).e && decide (((⟨m, false⟩ : RS).at 3).b = [])) = V) := Lib.hid hV.symm
    have HNQ := Lib.hid hNQ
    have HNT := Lib.hid hNT
    have hle : ∀ k, ((⟨m, false⟩ : RS).at k).b.length ≤ 1000000000000 := fun k => Nat.le_trans (RS.at_le _ k) (by show m.length ≤ _; have := HM.out; omega)
    clear hK hQ hT hV hNQ hNT hC
    clear HR1
    have n1 : Nw w w1 := inferInstance
    go_wp2_with (first | ((with_reducible apply wpl_build); (exact kbR _)) | ((with_reducible apply (wpl_box_agg (dst := some 21))); (exact rfl); intro zr wzr _ _ _) | ((with_reducible apply wpl_loadcellN); (exact rfl); infer_instance; (exact rfl)))
    have hzr : w.heap.size ≤ zr := (NewA.monoS (w0 := w) (NewA.of_born (z := zr) 0)).out ⟨zr, 0, none⟩ rfl
    have st0 : Nw w wzr := inferInstance
    obtain ⟨d, hR0⟩ := rrAt_of wzr zr (inferInstance : HB wzr zr 81 #[.slice M nb cb, .bool false]) (HMR.out.later st0.out) HM.out hcap (fun hne ad e h => by
      have h1 := rd_lt HMR.out (by simpa [bs] using hne) e
      omega)
    refine (rrNum_calls zr d ((⟨m, false⟩ : RS).at 0) wzr hR0 (hle 0)).mono ?_
    rw [HK.out]
    rintro e w5 ⟨rfl, h5, c5⟩
    have s5 : Step (only zr) wzr w5 := ⟨c5.out⟩
    have n5 : Nw w w5 := inferInstance
    have HR5 : Hid (RRAt w5 zr d ((⟨m, false⟩ : RS).at 1)) := h5
    clear h5 c5
    go_wp2_with fail
    refine (rrNum_calls zr d ((⟨m, false⟩ : RS).at 1) w5 HR5.out (hle 1)).mono ?_
    rw [HQ.out]
    rintro e w6 ⟨rfl, h6, c6⟩
    have s6 : Chg nowhere w w6 := n5.out.trans c6.out (fun x hx h => by have h' : x = zr := h; omega)
    have n6 : Nw w w6 := ⟨s6⟩
    have HR6 : Hid (RRAt w6 zr d ((⟨m, false⟩ : RS).at 2)) := h6
    clear h6 c6 s6
    go_wp2_with fail
    refine (rrNum_calls zr d ((⟨m, false⟩ : RS).at 2) w6 HR6.out (hle 2)).mono ?_
    rw [HT.out]
    rintro e w7 ⟨rfl, h7, c7⟩
    have s7 : Chg nowhere w w7 := n6.out.trans c7.out (fun x hx h => by have h' : x = zr := h; omega)
    have n7 : Nw w w7 := ⟨s7⟩
    have HR7 : Hid (RRAt w7 zr d ((⟨m, false⟩ : RS).at 3)) := h7
    clear h7 c7 s7
    go_wp2_with fail
    refine (rrWhole_calls zr d _ w7 HR7.out (hle 3)).mono ?_
    rw [HV.out]
    rintro e w8 ⟨rfl, rfl⟩
    cases V with
    | false =>
      have HC2 : Hid (R = (0, 2)) := Lib.hid (by rw [HC.out]; simp)
      clear HC
      go_wp2_with fail
      go_ret2
      rw [HC2.out]
      exact ⟨rfl, stepN⟩
    | true =>
      by_cases h7 : K = 7
      · obtain rfl := h7
        go_wp2_with (first | ((with_reducible apply (wpl_guard (op := .call _))); (exact rfl)))
        refine (rckNum_calls Q _).mono ?_
        rw [← HNQ.out]
        rintro e w9 ⟨rfl, _⟩
        cases NQ with
        | false =>
          have HC2 : Hid (R = (0, 2)) := Lib.hid (by rw [HC.out]; simp)
          clear HC
          go_wp2_with fail
          go_ret2
          rw [HC2.out]
          exact ⟨rfl, stepN⟩
        | true =>
          go_wp2_with (first | ((with_reducible apply (wpl_guard (op := .call _))); (exact rfl)))
          refine (rckNum_calls T _).mono ?_
          rw [← HNT.out]
          rintro e w10 ⟨rfl, _⟩
          cases NT with
          | false =>
            have HC2 : Hid (R = (0, 2)) := Lib.hid (by rw [HC.out]; simp)
            clear HC
            go_wp2_with fail
            go_ret2
            rw [HC2.out]
            exact ⟨rfl, stepN⟩
          | true =>
            by_cases hq : Q = nonce
            · have HC2 : Hid (R = (T, 0)) := Lib.hid (by rw [HC.out]; simp [hq])
              clear HC
              go_wp2_with fail
              go_ret2
              rw [HC2.out]
              exact ⟨rfl, stepN⟩
            · have HC2 : Hid (R = (0, 5)) := Lib.hid (by rw [HC.out]; simp [hq])
              clear HC
              go_wp2_with fail
              go_ret2
              rw [HC2.out]
              exact ⟨rfl, stepN⟩
      · have HC2 : Hid (R = (0, 2)) := Lib.hid (by rw [HC.out]; simp [h7])
        clear HC
        go_wp2_with fail
        go_ret2
        rw [HC2.out]
        exact ⟨rfl, stepN⟩
end Go.Proofs.YtcgbgeheiklhhaaGreat
