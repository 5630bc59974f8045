/- QmB -/
import Derived.Test.YtmnapacibpnodaaGreatUeUnA
open Go Go.RowKit
namespace Go.Proofs.YtmnapacibpnodaaGreat
set_option maxRecDepth 100000 in
set_option maxHeartbeats 1600000 in
theorem sgn1_calls {m : List UInt8} {nb cb : Nat} {M : Option Addr} {zp zb : Nat} {tb tc : TypeId} (pub : H32) (r : MarkR) {w : World} [hm : HR w M (bs m)] [hp : HB w zp tb (u8s pub.l)] [hb : HB w zb tc #[.slice M nb cb]] (hr : MarkIn w r) (hl : m.length = nb) (hcap : nb ≤ cb) (hn : nb ≤ 140737488351232) :
    Calls Tryz.prog 95 #[.agg (RowC.enc r).toArray, .pointer (some ⟨zp, 0, none⟩), .pointer (some ⟨zb, 0, none⟩)] w fun e w' => e = .returned (.bool (signsB m pub r)) ∧ Step nowhere w w' := by
  have hq := eqlH
  have HM := Lib.hid hl
  have HMI := Lib.hid hr
  clear hl hr
  by_cases hk : r.key = pub
  · have hd : decide (r.key = pub) = true := decide_eq_true hk
    obtain ⟨V, hV⟩ : ∃ V, V = verifyS pub m r.leaf r.l r.p := ⟨_, rfl⟩
    have HV := Lib.hid hV
    have HR1 : Hid (signsB m pub r = V) := Lib.hid (by rw [signsB, hd, hV]; rfl)
    clear hk hV
    go_enter Tryz.func95, Tryz.ntmps95
    go_wp2_with (first | ((with_reducible apply (wpl_loadpartH (t := 26) (k := 0))); (exact rfl); infer_instance; infer_instance; (exact mark_key r)) | ((with_reducible apply (wpl_loadpart (t := 63) (k := 32))); (exact rfl); infer_instance; infer_instance; (decide); (exact mark_sig r); (exact rfl)) | ((with_reducible apply (wpl_box_agg (dst := some 3))); (exact rfl); intro zm wzm _ _ _) | ((with_reducible apply (wpl_guard (op := .load _ _))); (exact rfl)) | ((with_reducible apply (wpl_guard (op := .fieldAddr _ _ _))); (exact rfl)) | ((with_reducible apply wpl_loadrow); (exact rfl); infer_instance; infer_instance; (first | (with_reducible assumption) | (with_reducible exact H32.size _) | (with_reducible exact enc_sz _ rfl) | kernel_rfl)) | ((with_reducible apply wpl_loadcellN); (exact rfl); infer_instance; (exact rfl)))
    refine (verifyM_calls pub r w HMI.out HM.out hcap hn).mono ?_
    rw [← HV.out]
    rintro e w1 ⟨rfl, _⟩
    go_wp2_with fail
    go_ret
    refine ⟨?_, stepN⟩
    rw [HR1.out]
    rfl
  · have hd : decide (r.key = pub) = false := decide_eq_false hk
    have HR1 : Hid (signsB m pub r = false) := Lib.hid (by rw [signsB, hd]; rfl)
    clear hk
    go_enter Tryz.func95, Tryz.ntmps95
    go_wp2_with (first | go_skip | ((with_reducible apply (wpl_loadpartH (t := 26) (k := 0))); (exact rfl); infer_instance; infer_instance; (exact mark_key r)) | ((with_reducible apply (wpl_box_agg (dst := some 3))); (exact rfl); intro zm wzm _ _ _) | ((with_reducible apply wpl_loadrow); (exact rfl); infer_instance; infer_instance; (first | (with_reducible assumption) | (with_reducible exact H32.size _) | (with_reducible exact enc_sz _ rfl) | kernel_rfl)))
    go_ret
    refine ⟨?_, stepN⟩
    rw [HR1.out]
    rfl
/-- the closure that signed hands on -/
def sgnF (zp zb : Nat) : Value := .func (.func 95) #[] #[.pointer (some ⟨zp, 0, none⟩), .pointer (some ⟨zb, 0, none⟩)]
set_option maxRecDepth 100000 in
set_option maxHeartbeats 1600000 in
theorem midx_calls {m : List UInt8} {nb cb : Nat} {M A : Option Addr} {n c zp zb : Nat} {tb tc : TypeId} {l : List MarkR} (pub : H32) {w : World} [hm : HR w M (bs m)] [hp : HB w zp tb (u8s pub.l)] [hb : HB w zb tc #[.slice M nb cb]] [hr : HR w A (cellsOf l)] (hM : ∀ r ∈ l, MarkIn w r) (hl : l.length = n) (hmax : n ≤ 9223372036854775807) (hlm : m.length = nb) (hcap : nb ≤ cb) (hn : nb ≤ 140737488351232) :
    Calls Tryz.prog 116 #[.slice A n c, .func (.func 95) #[] #[.pointer (some ⟨zp, 0, none⟩), .pointer (some ⟨zb, 0, none⟩)]] w fun e w' => ∃ r : Int, e = .returned (.int .i64 r) ∧ (0 ≤ r ↔ l.any (signsB m pub) = true) ∧ Step nowhere w w' := by
  have HL := Lib.hid hl
  have HM := Lib.hid hlm
  have HMI := Lib.hid hM
  obtain ⟨R, hR⟩ : ∃ R, R = l.any (signsB m pub) := ⟨_, rfl⟩
  rw [← hR]
  have HRR := Lib.hid hR
  clear hM hlm hR
  go_enter Tryz.func116, Tryz.ntmps116
  go_wp2_with fail
  go_loopw [8] (fun kv wr => ∃ k : Nat, k ≤ n ∧ kv = .int .i64 (k : Int) ∧ Hid ((l.take k).any (signsB m pub) = false) ∧ Step nowhere w wr) (fun kv _ => n - (intOf kv).toNat)
  case atStart => exact ⟨0, Nat.zero_le _, rfl, Lib.hid rfl, stepN⟩
  case round =>
    obtain ⟨k, hk, rfl, HJ, _⟩ := hrel
    by_cases hlt : k < n
    · have hltI : (k : Int) < n := by omega
      have hkl : k < l.length := by omega
      have hmem : gt l k ∈ l := gt_mem l k hkl
      have HMK : Hid (MarkIn w (gt l k)) := Lib.hid (HMI.out _ hmem)
      have hts : (l.take (k + 1)).any (signsB m pub) = ((l.take k).any (signsB m pub) || signsB m pub (gt l k)) := by
        rw [← List.take_append_getElem hkl, List.any_append]
        simp [gt, List.getD_eq_getElem?_getD, hkl]
      obtain ⟨V, hV⟩ : ∃ V, V = signsB m pub (gt l k) := ⟨_, rfl⟩
      rw [HJ.out, Bool.false_or, ← hV] at hts
      have HV := Lib.hid hV
      have HTS := Lib.hid hts
      have HAL : Hid (V = true → R = true) := Lib.hid (fun h => by rw [HRR.out]; exact List.any_eq_true.2 ⟨_, hmem, by rw [← hV]; exact h⟩)
      clear hmem hts hV
      go_wp2_with (first | ((with_reducible apply (wpl_indexE (α := MarkR) (t := 35))); (exact rfl); (exact rfl); infer_instance; infer_instance; (first | (with_reducible assumption) | omega | (focus (simp; done)) | (focus (simp; omega; done)) | decide); (exact rfl); (decide); (first | (with_reducible assumption) | omega | (focus (simp; done)) | (focus (simp; omega; done)) | decide)) | ((with_reducible apply (wpl_loadE (α := MarkR) (t := 67))); infer_instance; (exact rfl); infer_instance; (exact rfl); (decide); (first | (with_reducible assumption) | omega | (focus (simp; done)) | (focus (simp; omega; done)) | decide)))
      refine (sgn1_calls pub (gt l k) (MarkIn.nw HMK.out) HM.out hcap hn).mono ?_
      rw [← HV.out]
      rintro e w1 ⟨rfl, _⟩
      cases V with
      | true =>
        have HAR : Hid (R = true) := Lib.hid (HAL.out rfl)
        clear HAL
        go_wp2_with fail
        go_ret
        exact ⟨_, rfl, ⟨fun _ => HAR.out, fun _ => by omega⟩, stepN⟩
      | false =>
        go_wp2_with fail
        exact ⟨⟨k + 1, by omega, by go_num, HTS, stepN⟩, by simp [intOf]; omega⟩
    · have hltI : ¬ (k : Int) < n := by omega
      have HF : Hid (R = false) := Lib.hid (by
        have h1 := HJ.out
        rw [HRR.out]
        rwa [List.take_of_length_le (by omega)] at h1)
      go_wp2_with fail
      go_ret
      refine ⟨_, rfl, ⟨fun h => by simp at h, fun h => ?_⟩, stepN⟩
      rw [HF.out] at h
      cases h
set_option maxRecDepth 100000 in
set_option maxHeartbeats 1600000 in
theorem mcont_calls {m : List UInt8} {nb cb : Nat} {M A : Option Addr} {n c zp zb : Nat} {tb tc : TypeId} {l : List MarkR} (pub : H32) {w : World} [hm : HR w M (bs m)] [hp : HB w zp tb (u8s pub.l)] [hb : HB w zb tc #[.slice M nb cb]] [hr : HR w A (cellsOf l)] (hM : ∀ r ∈ l, MarkIn w r) (hl : l.length = n) (hmax : n ≤ 9223372036854775807) (hlm : m.length = nb) (hcap : nb ≤ cb) (hn : nb ≤ 140737488351232) :
    Calls Tryz.prog 94 #[.slice A n c, .func (.func 95) #[] #[.pointer (some ⟨zp, 0, none⟩), .pointer (some ⟨zb, 0, none⟩)]] w fun e w' => e = .returned (.bool (l.any (signsB m pub))) ∧ Step nowhere w w' := by
  have HMI := Lib.hid hM
  clear hM
  go_enter Tryz.func94, Tryz.ntmps94
  go_wp2_with fail
  refine (midx_calls (l := l) (M := M) pub (fun r hr => MarkIn.nw (HMI.out r hr)) hl hmax hlm hcap hn).mono ?_
  rintro e w1 ⟨r, rfl, hr, _⟩
  have hd : decide (0 ≤ r) = l.any (signsB m pub) := by rw [Bool.eq_iff_iff, decide_eq_true_eq]; exact hr
  have HD := Lib.hid hd
  clear hd hr
  go_wp2_with fail
  go_ret
  refine ⟨?_, stepN⟩
  rw [← HD.out]
  rfl
set_option maxRecDepth 100000 in
set_option maxHeartbeats 1600000 in
theorem signed_calls {m : List UInt8} {nb cb : Nat} {M A : Option Addr} {n c : Nat} {l : List MarkR} (pub : H32) {w : World} [hm : HR w M (bs m)] [hr : HR w A (cellsOf l)] (hM : ∀ r ∈ l, MarkIn w r) (hl : l.length = n) (hmax : n ≤ 9223372036854775807) (hlm : m.length = nb) (hcap : nb ≤ cb) (hn : nb ≤ 140737488351232) :
    Calls Tryz.prog 74 #[.slice M nb cb, .slice A n c, .agg (u8s pub.l)] w fun e w' => e = .returned (.bool (l.any (signsB m pub))) ∧ Step nowhere w w' := by
  have HMI := Lib.hid hM
  clear hM
  go_enter Tryz.func74, Tryz.ntmps74
  go_wp2_with (first | ((with_reducible apply (wpl_box_slice (dst := some 3))); (exact rfl); intro zb wzb _ _ _) | ((with_reducible apply (wpl_box_agg (dst := some 5))); (exact rfl); intro zp wzp _ _ _))
  refine (mcont_calls (l := l) (M := M) pub (fun r hr => MarkIn.nw (HMI.out r hr)) hl hmax hlm hcap hn).mono ?_
  rintro e w1 ⟨rfl, _⟩
  go_wp2_with fail
  go_ret
  exact ⟨rfl, stepN⟩
end Go.Proofs.YtmnapacibpnodaaGreat
