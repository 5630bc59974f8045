/- QmV -/
import Derived.Test.YtmijlojjkgeplaaTqQmS
import Derived.Test.YtmijlojjkgeplaaTqQmG
open Go Go.RowKit
namespace Go.Proofs.Ytmijlojjkgeplaa
theorem whoN_none (m : List UInt8) (ks : List H32) : ∀ k, whoN m [] ks k = []
  | 0 => rfl
  | k + 1 => by
    rw [whoN, whoN_none m ks k]
    simp
theorem meets_three (m : List UInt8) (l : List MarkR) (need : Int) (R : List H32) (h : whoN m l (pubsN 3) 3 = R) :
    meetsB m l (pubsN 3) need = (decide (1 ≤ need) && decide (need ≤ 3) && decide (need ≤ ((R.length : Nat) : Int))) := by
  unfold meetsB
  rw [show (pubsN 3).length = 3 from rfl, h, pubsN3, isB_three]
theorem who_seven (m : List UInt8) (l : List MarkR) (h : l.map markOf = allSigs m 7 false 3) (h4 : l.length ≤ 4) : whoN m l (pubsN 3) 3 = pubsN 3 := by
  rw [who_all m 7 false l h h4, show setBits 7 3 = [0, 1, 2] by decide +kernel]
  rfl
set_option maxRecDepth 100000 in
set_option maxHeartbeats 3200000 in
theorem quorumNone_calls {m : List UInt8} {nb cb : Nat} {M : Option Addr} (need : Int) {w : World} [hm : HR w M (bs m)] (hlm : m.length = nb) (hcap : nb ≤ cb) (hmax : nb ≤ 9223372036854775807) :
    Calls Try.prog 14 #[.slice M nb cb, .int .i64 need] w fun e w' => e = .returned (.bool true) ∧ Chg nowhere w w' := by
  have kbE : ∀ w, (Instr.build 61 #[(0, .slice M nb cb)]).run Try.prog w = .ok (.agg #[.slice M nb cb, .slice none 0 0]) w := fun _ => by kernel_rfl
  have HM := Lib.hid hlm
  clear hlm
  go_enter Try.func14, Try.ntmps14
  by_cases hb : 1000 < nb
  · have hbI : 1000 < (nb : Int) := by omega
    go_wp2_with (first | go_skip | ((with_reducible apply wpl_alloc); intro z wz _ _ _) | ((with_reducible apply (wpl_guard (op := .load _ _))); (exact rfl)) | ((with_reducible apply wpl_loadrow); (exact rfl); infer_instance; infer_instance; (first | (with_reducible assumption) | (with_reducible exact H32.size _) | kernel_rfl)) | ((with_reducible apply wpl_loadcellN); (exact rfl); infer_instance; (exact rfl)) | ((with_reducible apply wpl_storerow); (exact rfl); (exact rfl); infer_instance; infer_instance; (first | (with_reducible assumption) | (with_reducible exact H32.size _) | kernel_rfl); (first | (with_reducible assumption) | (with_reducible exact H32.size _) | kernel_rfl); (first | (with_reducible exact u8s_one _) | (with_reducible assumption) | kernel_rfl); intro ws _ _) | ((with_reducible apply wpl_storecell); (exact rfl); (exact rfl); infer_instance; (exact rfl); (first | (with_reducible assumption) | omega | (focus (simp; done)) | (focus (simp; omega; done)) | decide); intro ws _ _))
    go_ret
    exact ⟨rfl, (stepN (w0 := w)).chg⟩
  · have hbI : ¬ 1000 < (nb : Int) := by omega
    have hn : nb ≤ 140737488351232 := by omega
    go_wp2_with (first | go_skip | ((with_reducible apply wpl_alloc); intro z wz _ _ _) | ((with_reducible apply (wpl_guard (op := .load _ _))); (exact rfl)) | ((with_reducible apply wpl_loadrow); (exact rfl); infer_instance; infer_instance; (first | (with_reducible assumption) | (with_reducible exact H32.size _) | kernel_rfl)) | ((with_reducible apply wpl_loadcellN); (exact rfl); infer_instance; (exact rfl)) | ((with_reducible apply wpl_storerow); (exact rfl); (exact rfl); infer_instance; infer_instance; (first | (with_reducible assumption) | (with_reducible exact H32.size _) | kernel_rfl); (first | (with_reducible assumption) | (with_reducible exact H32.size _) | kernel_rfl); (first | (with_reducible exact u8s_one _) | (with_reducible assumption) | kernel_rfl); intro ws _ _) | ((with_reducible apply wpl_storecell); (exact rfl); (exact rfl); infer_instance; (exact rfl); (first | (with_reducible assumption) | omega | (focus (simp; done)) | (focus (simp; omega; done)) | decide); intro ws _ _))
    refine (qsigned_calls 7 false HM.out (by omega)).mono ?_
    rintro e w1 ⟨A, K, nm, cm, ck, l, rfl, _, _, _, hln, hcm, hck, hn4, hMI, hct⟩
    have HLN := Lib.hid hln
    have HMI := Lib.hid hMI
    obtain ⟨B, hB⟩ : ∃ B, B = meetsB m l (pubsN 3) need := ⟨_, rfl⟩
    have HBV : Hid (B = (decide (1 ≤ need) && decide (need ≤ 3))) := Lib.hid (by
      rw [hB, meets_three m l need _ (who_seven m l hct (by omega)), show (((pubsN 3).length : Nat) : Int) = 3 from rfl]
      cases decide (1 ≤ need) <;> cases decide (need ≤ 3) <;> rfl)
    have HB1 := Lib.hid hB
    have HBN : Hid (meetsB m [] (pubsN 3) need = false) := Lib.hid (by
      rw [meets_three m [] need _ (whoN_none m _ _)]
      by_cases h : 1 ≤ need
      · have h2 : ¬ need ≤ 0 := by omega
        simp [h2]
      · simp [h])
    have hmx : nm ≤ 9223372036854775807 := by omega
    clear hct hB hln hMI
    go_wp2_with (first | go_skip | ((with_reducible apply wpl_build); (exact kbE _)) | ((with_reducible apply (wpl_alloc (dst := some 5))); intro z5 wz5 _ _ _) | ((with_reducible apply (wpl_alloc (dst := some 6))); intro z6 wz6 _ _ _) | ((with_reducible apply (wpl_alloc (dst := some 7))); intro z7 wz7 _ _ _) | ((with_reducible apply wpl_alloc); intro z wz _ _ _) | ((with_reducible apply (wpl_guard (op := .load _ _))); (exact rfl)) | ((with_reducible apply wpl_loadrow); (exact rfl); infer_instance; infer_instance; (first | (with_reducible assumption) | (with_reducible exact H32.size _) | kernel_rfl)) | ((with_reducible apply wpl_loadcellN); (exact rfl); infer_instance; (exact rfl)) | ((with_reducible apply wpl_storerow); (exact rfl); (exact rfl); infer_instance; infer_instance; (first | (with_reducible assumption) | (with_reducible exact H32.size _) | kernel_rfl); (first | (with_reducible assumption) | (with_reducible exact H32.size _) | kernel_rfl); (first | (with_reducible exact u8s_one _) | (with_reducible assumption) | kernel_rfl); intro ws _ _) | ((with_reducible apply wpl_storecell); (exact rfl); (exact rfl); infer_instance; (exact rfl); (first | (with_reducible assumption) | omega | (focus (simp; done)) | (focus (simp; omega; done)) | decide); intro ws _ _))
    have hnil : HR wz7 none (cellsOf ([] : List MarkR)) := ⟨Rd.nil _ _⟩
    refine (who_calls (l := []) (ks := pubsN 3) need (fun r h => by cases h) rfl (Nat.le_refl _) (by decide) HM.out hcap hn rfl (by decide)).mono ?_
    rw [whoN_none]
    rintro e w2 ⟨B1, n1', c1', rfl, hlen1, _, _⟩
    obtain rfl : n1' = 0 := hlen1.symm
    go_wp2_with (first | go_skip | ((with_reducible apply wpl_alloc); intro z wz _ _ _) | ((with_reducible apply (wpl_guard (op := .load _ _))); (exact rfl)) | ((with_reducible apply wpl_loadrow); (exact rfl); infer_instance; infer_instance; (first | (with_reducible assumption) | (with_reducible exact H32.size _) | kernel_rfl)) | ((with_reducible apply wpl_loadcellN); (exact rfl); infer_instance; (exact rfl)) | ((with_reducible apply wpl_storerow); (exact rfl); (exact rfl); infer_instance; infer_instance; (first | (with_reducible assumption) | (with_reducible exact H32.size _) | kernel_rfl); (first | (with_reducible assumption) | (with_reducible exact H32.size _) | kernel_rfl); (first | (with_reducible exact u8s_one _) | (with_reducible assumption) | kernel_rfl); intro ws _ _) | ((with_reducible apply wpl_storecell); (exact rfl); (exact rfl); infer_instance; (exact rfl); (first | (with_reducible assumption) | omega | (focus (simp; done)) | (focus (simp; omega; done)) | decide); intro ws _ _))
    refine (meets_calls (l := []) (ks := pubsN 3) need (fun r h => by cases h) rfl (Nat.le_refl _) (by decide) HM.out hcap hn rfl (by decide) hck).mono ?_
    rw [HBN.out]
    rintro e w3 ⟨rfl, _⟩
    go_wp2_with (first | go_skip | ((with_reducible apply wpl_alloc); intro z wz _ _ _) | ((with_reducible apply (wpl_guard (op := .load _ _))); (exact rfl)) | ((with_reducible apply wpl_loadrow); (exact rfl); infer_instance; infer_instance; (first | (with_reducible assumption) | (with_reducible exact H32.size _) | kernel_rfl)) | ((with_reducible apply wpl_loadcellN); (exact rfl); infer_instance; (exact rfl)) | ((with_reducible apply wpl_storerow); (exact rfl); (exact rfl); infer_instance; infer_instance; (first | (with_reducible assumption) | (with_reducible exact H32.size _) | kernel_rfl); (first | (with_reducible assumption) | (with_reducible exact H32.size _) | kernel_rfl); (first | (with_reducible exact u8s_one _) | (with_reducible assumption) | kernel_rfl); intro ws _ _) | ((with_reducible apply wpl_storecell); (exact rfl); (exact rfl); infer_instance; (exact rfl); (first | (with_reducible assumption) | omega | (focus (simp; done)) | (focus (simp; omega; done)) | decide); intro ws _ _))
    refine (meets_calls (l := l) (ks := pubsN 3) need (fun r h => MarkIn.nw (HMI.out r h)) HLN.out hcm hmx HM.out hcap hn rfl (by decide) hck).mono ?_
    rw [← HB1.out]
    rintro e w4 ⟨rfl, _⟩
    have HBD := HBV
    clear HBV HB1
    by_cases h1 : 1 ≤ need
    · by_cases h3 : need ≤ 3
      · obtain rfl : B = true := by rw [HBD.out]; simp [h1, h3]
        clear HBD
        go_wp2_with (first | go_skip | ((with_reducible apply wpl_alloc); intro z wz _ _ _) | ((with_reducible apply (wpl_guard (op := .load _ _))); (exact rfl)) | ((with_reducible apply wpl_loadrow); (exact rfl); infer_instance; infer_instance; (first | (with_reducible assumption) | (with_reducible exact H32.size _) | kernel_rfl)) | ((with_reducible apply wpl_loadcellN); (exact rfl); infer_instance; (exact rfl)) | ((with_reducible apply wpl_storerow); (exact rfl); (exact rfl); infer_instance; infer_instance; (first | (with_reducible assumption) | (with_reducible exact H32.size _) | kernel_rfl); (first | (with_reducible assumption) | (with_reducible exact H32.size _) | kernel_rfl); (first | (with_reducible exact u8s_one _) | (with_reducible assumption) | kernel_rfl); intro ws _ _) | ((with_reducible apply wpl_storecell); (exact rfl); (exact rfl); infer_instance; (exact rfl); (first | (with_reducible assumption) | omega | (focus (simp; done)) | (focus (simp; omega; done)) | decide); intro ws _ _))
        refine (qKnown_calls _).mono ?_
        rintro e w5 ⟨rfl, _⟩
        go_wp2_with (first | go_skip | ((with_reducible apply wpl_alloc); intro z wz _ _ _) | ((with_reducible apply (wpl_guard (op := .load _ _))); (exact rfl)) | ((with_reducible apply wpl_loadrow); (exact rfl); infer_instance; infer_instance; (first | (with_reducible assumption) | (with_reducible exact H32.size _) | kernel_rfl)) | ((with_reducible apply wpl_loadcellN); (exact rfl); infer_instance; (exact rfl)) | ((with_reducible apply wpl_storerow); (exact rfl); (exact rfl); infer_instance; infer_instance; (first | (with_reducible assumption) | (with_reducible exact H32.size _) | kernel_rfl); (first | (with_reducible assumption) | (with_reducible exact H32.size _) | kernel_rfl); (first | (with_reducible exact u8s_one _) | (with_reducible assumption) | kernel_rfl); intro ws _ _) | ((with_reducible apply wpl_storecell); (exact rfl); (exact rfl); infer_instance; (exact rfl); (first | (with_reducible assumption) | omega | (focus (simp; done)) | (focus (simp; omega; done)) | decide); intro ws _ _))
        go_ret
        exact ⟨rfl, (stepN (w0 := w)).chg⟩
      · obtain rfl : B = false := by rw [HBD.out]; simp [h3]
        clear HBD
        go_wp2_with (first | go_skip | ((with_reducible apply wpl_alloc); intro z wz _ _ _) | ((with_reducible apply (wpl_guard (op := .load _ _))); (exact rfl)) | ((with_reducible apply wpl_loadrow); (exact rfl); infer_instance; infer_instance; (first | (with_reducible assumption) | (with_reducible exact H32.size _) | kernel_rfl)) | ((with_reducible apply wpl_loadcellN); (exact rfl); infer_instance; (exact rfl)) | ((with_reducible apply wpl_storerow); (exact rfl); (exact rfl); infer_instance; infer_instance; (first | (with_reducible assumption) | (with_reducible exact H32.size _) | kernel_rfl); (first | (with_reducible assumption) | (with_reducible exact H32.size _) | kernel_rfl); (first | (with_reducible exact u8s_one _) | (with_reducible assumption) | kernel_rfl); intro ws _ _) | ((with_reducible apply wpl_storecell); (exact rfl); (exact rfl); infer_instance; (exact rfl); (first | (with_reducible assumption) | omega | (focus (simp; done)) | (focus (simp; omega; done)) | decide); intro ws _ _))
        refine (qKnown_calls _).mono ?_
        rintro e w5 ⟨rfl, _⟩
        go_wp2_with (first | go_skip | ((with_reducible apply wpl_alloc); intro z wz _ _ _) | ((with_reducible apply (wpl_guard (op := .load _ _))); (exact rfl)) | ((with_reducible apply wpl_loadrow); (exact rfl); infer_instance; infer_instance; (first | (with_reducible assumption) | (with_reducible exact H32.size _) | kernel_rfl)) | ((with_reducible apply wpl_loadcellN); (exact rfl); infer_instance; (exact rfl)) | ((with_reducible apply wpl_storerow); (exact rfl); (exact rfl); infer_instance; infer_instance; (first | (with_reducible assumption) | (with_reducible exact H32.size _) | kernel_rfl); (first | (with_reducible assumption) | (with_reducible exact H32.size _) | kernel_rfl); (first | (with_reducible exact u8s_one _) | (with_reducible assumption) | kernel_rfl); intro ws _ _) | ((with_reducible apply wpl_storecell); (exact rfl); (exact rfl); infer_instance; (exact rfl); (first | (with_reducible assumption) | omega | (focus (simp; done)) | (focus (simp; omega; done)) | decide); intro ws _ _))
        go_ret
        first
          | exact ⟨rfl, (stepN (w0 := w)).chg⟩
          | exact ⟨by simp [h3], (stepN (w0 := w)).chg⟩
    · obtain rfl : B = false := by rw [HBD.out]; simp [h1]
      clear HBD
      go_wp2_with (first | go_skip | ((with_reducible apply wpl_alloc); intro z wz _ _ _) | ((with_reducible apply (wpl_guard (op := .load _ _))); (exact rfl)) | ((with_reducible apply wpl_loadrow); (exact rfl); infer_instance; infer_instance; (first | (with_reducible assumption) | (with_reducible exact H32.size _) | kernel_rfl)) | ((with_reducible apply wpl_loadcellN); (exact rfl); infer_instance; (exact rfl)) | ((with_reducible apply wpl_storerow); (exact rfl); (exact rfl); infer_instance; infer_instance; (first | (with_reducible assumption) | (with_reducible exact H32.size _) | kernel_rfl); (first | (with_reducible assumption) | (with_reducible exact H32.size _) | kernel_rfl); (first | (with_reducible exact u8s_one _) | (with_reducible assumption) | kernel_rfl); intro ws _ _) | ((with_reducible apply wpl_storecell); (exact rfl); (exact rfl); infer_instance; (exact rfl); (first | (with_reducible assumption) | omega | (focus (simp; done)) | (focus (simp; omega; done)) | decide); intro ws _ _))
      refine (qKnown_calls _).mono ?_
      rintro e w5 ⟨rfl, _⟩
      go_wp2_with (first | go_skip | ((with_reducible apply wpl_alloc); intro z wz _ _ _) | ((with_reducible apply (wpl_guard (op := .load _ _))); (exact rfl)) | ((with_reducible apply wpl_loadrow); (exact rfl); infer_instance; infer_instance; (first | (with_reducible assumption) | (with_reducible exact H32.size _) | kernel_rfl)) | ((with_reducible apply wpl_loadcellN); (exact rfl); infer_instance; (exact rfl)) | ((with_reducible apply wpl_storerow); (exact rfl); (exact rfl); infer_instance; infer_instance; (first | (with_reducible assumption) | (with_reducible exact H32.size _) | kernel_rfl); (first | (with_reducible assumption) | (with_reducible exact H32.size _) | kernel_rfl); (first | (with_reducible exact u8s_one _) | (with_reducible assumption) | kernel_rfl); intro ws _ _) | ((with_reducible apply wpl_storecell); (exact rfl); (exact rfl); infer_instance; (exact rfl); (first | (with_reducible assumption) | omega | (focus (simp; done)) | (focus (simp; omega; done)) | decide); intro ws _ _))
      go_ret
      exact ⟨rfl, (stepN (w0 := w)).chg⟩
end Go.Proofs.Ytmijlojjkgeplaa
