/- EnI -/
import Derived.Test.YtgjnjhhhbkidbaaGreatUdEnG
import Derived.Test.YtgjnjhhhbkidbaaGreatUdWzB
import Derived.Test.YtgjnjhhhbkidbaaGreatUdKyQ
open Go Go.RowKit
namespace Go.Proofs.YtgjnjhhhbkidbaaGreat
theorem map_at {L Q : List MarkR} (h : L.map MarkR.m = Q.map MarkR.m) (k : Nat) (hk : k < L.length) : (gt L k).m = (gt Q k).m := by
  have hl : L.length = Q.length := by simpa using congrArg List.length h
  have h1 : (L.map MarkR.m)[k]? = (Q.map MarkR.m)[k]? := by rw [h]
  have hq : k < Q.length := by omega
  rw [List.getElem?_map, List.getElem?_map, List.getElem?_eq_getElem hk, List.getElem?_eq_getElem hq] at h1
  injection h1 with h1
  simpa [gt, List.getD_eq_getElem?_getD, hk, hq] using h1
theorem sameS_one (a : Int) (l p : List H32) : sameS a l p a l p = true := by simp [sameS]
set_option maxRecDepth 100000 in
set_option maxHeartbeats 1600000 in
theorem sameEnv_calls {b : List UInt8} {M M' A A' : Option Addr} {n c m d na ca nb cb : Nat} {L Q : List MarkR} {w : World} [hM : HR w M (bs b)] [hM' : HR w M' (bs b)] [hA : HR w A (cellsOf L)] [hA' : HR w A' (cellsOf Q)] (hK : ∀ x ∈ L, MarkIn w x) (hQ : ∀ x ∈ Q, MarkIn w x) (hE : L.map MarkR.m = Q.map MarkR.m)
    (hl : b.length = n) (hl' : b.length = m) (hla : L.length = na) (hlb : Q.length = nb) (hmax : na ≤ 1000000000) (hs : ∀ x ∈ L, x.l.length ≤ 1000000000 ∧ x.p.length ≤ 1000000000) :
    Calls Tryz.prog 34 #[.agg #[.slice M n c, .slice A na ca], .agg #[.slice M' m d, .slice A' nb cb]] w fun e w' => e = .returned (.bool true) ∧ Step nowhere w w' := by
  have hse : ((strL b).toList == (strL b).toList) = true := by simp
  have hne := neqH
  have hab : nb = na := by
    have h9 : L.length = Q.length := by simpa using congrArg List.length hE
    omega
  subst hab
  have HK := Lib.hid hK
  have HQ := Lib.hid hQ
  have HE := Lib.hid hE
  have HS := Lib.hid hs
  clear hK hQ hE hs
  go_enter Tryz.func34, Tryz.ntmps34
  go_wp2_with (first | ((with_reducible apply (wpl_box_agg (dst := some 2))); (exact rfl); intro z2 wz2 _ _ _) | ((with_reducible apply (wpl_box_agg (dst := some 3))); (exact rfl); intro z3 wz3 _ _ _) | ((with_reducible apply (wpl_guard (op := .load _ _))); (exact rfl)) | ((with_reducible apply (wpl_guard (op := .fieldAddr _ _ _))); (exact rfl)) | ((with_reducible apply wpl_loadcellN); (exact rfl); infer_instance; (exact rfl)) | ((with_reducible apply wpl_conv); (exact rfl); infer_instance; (first | (with_reducible assumption) | (focus (simp; done)) | omega); (exact Tryz.underlying29); (exact Tryz.underlying5); (exact Tryz.underlying9)))
  go_loopw [5] (fun iv wr => ∃ k : Nat, k ≤ nb ∧ iv = .int .i64 (k : Int) ∧ Step nowhere w wr ∧ HB wr z2 32 #[.slice M n c, .slice A nb ca] ∧ HB wr z3 32 #[.slice M' m d, .slice A' nb cb]) (fun iv _ => nb - (intOf iv).toNat)
  case atStart => exact ⟨0, Nat.zero_le _, rfl, stepN, inferInstance, inferInstance⟩
  case round =>
    obtain ⟨k, hk, rfl, st, _, _⟩ := hrel
    by_cases hlt : k < nb
    · have hltI : (k : Int) < nb := by omega
      have hkr : k < L.length := by omega
      have hkq : k < Q.length := by omega
      have hmm := map_at HE.out k hkr
      obtain ⟨hm1, hm2, hm3, hm4⟩ : (gt L k).key = (gt Q k).key ∧ (gt L k).leaf = (gt Q k).leaf ∧ (gt L k).l = (gt Q k).l ∧ (gt L k).p = (gt Q k).p := by
        unfold MarkR.m at hmm
        injection hmm with a1 a2
        injection a2 with a2 a3
        injection a3 with a3 a4
        exact ⟨a1, a2, a3, a4⟩
      have hkL := HK.out _ (gt_mem L k hkr)
      have hkQ := HQ.out _ (gt_mem Q k hkq)
      have hsz := HS.out _ (gt_mem L k hkr)
      obtain ⟨r, hr⟩ : ∃ r, r = gt L k := ⟨_, rfl⟩
      obtain ⟨q, hq⟩ : ∃ q, q = gt Q k := ⟨_, rfl⟩
      rw [← hr] at hm1 hm2 hm3 hm4 hkL hsz
      rw [← hq] at hm1 hm2 hm3 hm4 hkQ
      have nr : Nw w wr := ⟨st.chg⟩
      have hv1 : ((RowC.enc (gt L k)).drop 0).take 32 = bs r.key.l := by rw [← hr]; exact mark_key r
      have hv2 : ((RowC.enc (gt Q k)).drop 0).take 32 = bs q.key.l := by rw [← hq]; exact mark_key q
      have hv3 : ((RowC.enc (gt L k)).drop 32).take 3 = [.int .i64 r.leaf, .slice r.A r.l.length r.c, .slice r.B r.p.length r.k] := by rw [← hr]; exact mark_sig r
      have hv4 : ((RowC.enc (gt Q k)).drop 32).take 3 = [.int .i64 q.leaf, .slice q.A q.l.length q.c, .slice q.B q.p.length q.k] := by rw [← hq]; exact mark_sig q
      have HKK : Hid ((!decide (r.key = q.key)) = false) := Lib.hid (by rw [hm1]; simp)
      have HSS : Hid (sameS r.leaf r.l r.p q.leaf q.l q.p = true) := Lib.hid (by rw [hm2, hm3, hm4]; exact sameS_one _ _ _)
      have h1 : HR wr r.A (cellsOf r.l) := ⟨(MarkIn.nw (w := wr) hkL).1⟩
      have h2 : HR wr r.B (cellsOf r.p) := ⟨(MarkIn.nw (w := wr) hkL).2⟩
      have h3 : HR wr q.A (cellsOf q.l) := ⟨(MarkIn.nw (w := wr) hkQ).1⟩
      have h4 : HR wr q.B (cellsOf q.p) := ⟨(MarkIn.nw (w := wr) hkQ).2⟩
      have HS1 := Lib.hid hsz.1
      have HS2 := Lib.hid hsz.2
      clear hmm hm1 hm2 hm3 hm4 hkL hkQ hsz hr hq
      go_wp2_with (first | ((with_reducible apply wpl_loadcellN); (exact rfl); infer_instance; (exact rfl)))
      refine wp_region_N (nowhere) (by kernel_rfl) (fun wd _ _ => ?_)
      refine' takeH (i := 0) (v := _) rfl (by kernel_rfl) (by kernel_rfl) (by kernel_rfl) (fun _ _ _ h => h) (yields_of (by rfl) (fun w' _ => ?_)) inferInstance ?_
      rotate_left
      · (go_simp; try with_reducible rfl)
      try simp only [Act.put, sA]; try simp only [sB, sC]
      refine' takeH (i := 1) (v := _) rfl (by kernel_rfl) (by kernel_rfl) (by kernel_rfl) (fun _ _ _ h => h) (yields_of (by rfl) (fun w' _ => ?_)) inferInstance ?_
      rotate_left
      · ((with_reducible apply ev_loadcellN); (exact rfl); infer_instance; infer_instance; (exact rfl))
      try simp only [Act.put, sA]; try simp only [sB, sC]
      refine' takeH (i := 2) (v := _) rfl (by kernel_rfl) (by kernel_rfl) (by kernel_rfl) (fun _ _ _ h => h) (yields_of (by rfl) (fun w' _ => ?_)) inferInstance ?_
      rotate_left
      · (go_simp; try with_reducible rfl)
      try simp only [Act.put, sA]; try simp only [sB, sC]
      refine' takeH (i := 3) (v := _) rfl (by kernel_rfl) (by kernel_rfl) (by kernel_rfl) (fun _ _ _ h => h) (yields_of (by rfl) (fun w' _ => ?_)) inferInstance ?_
      rotate_left
      · ((with_reducible apply (ev_indexE (α := MarkR) (t := 30))); (exact rfl); (exact rfl); infer_instance; infer_instance; (first | (with_reducible assumption) | omega | (focus (simp; done)) | (focus (simp; omega; done)) | decide); (exact rfl); (decide); (first | (with_reducible assumption) | omega | (focus (simp; done)) | (focus (simp; omega; done)) | decide))
      try simp only [Act.put, sA]; try simp only [sB, sC]
      refine' takeH (i := 4) (v := _) rfl (by kernel_rfl) (by kernel_rfl) (by kernel_rfl) (fun _ _ _ h => h) (yields_of (by rfl) (fun w' _ => ?_)) inferInstance ?_
      rotate_left
      · ((with_reducible apply (ev_fieldE (t := 133))); (exact Tryz.underlying133); (exact rfl); (kernel_rfl); (exact rfl); infer_instance; (exact cells_pos (by decide) (by omega)))
      try simp only [Act.put, sA]; try simp only [sB, sC]
      refine' takeH (i := 5) (v := _) rfl (by kernel_rfl) (by kernel_rfl) (by kernel_rfl) (fun _ _ _ h => h) (yields_of (by rfl) (fun w' _ => ?_)) inferInstance ?_
      rotate_left
      · ((with_reducible apply (ev_loadEPH (α := MarkR) (t := 23) (j := 0) (s := 35))); infer_instance; (exact rfl); infer_instance; (exact rfl); (first | (with_reducible assumption) | omega); (exact hv1))
      try simp only [Act.put, sA]; try simp only [sB, sC]
      refine' takeH (i := 6) (v := _) rfl (by kernel_rfl) (by kernel_rfl) (by kernel_rfl) (fun _ _ _ h => h) (yields_of (by rfl) (fun w' _ => ?_)) inferInstance ?_
      rotate_left
      · (go_simp; try with_reducible rfl)
      try simp only [Act.put, sA]; try simp only [sB, sC]
      refine' takeH (i := 7) (v := _) rfl (by kernel_rfl) (by kernel_rfl) (by kernel_rfl) (fun _ _ _ h => h) (yields_of (by rfl) (fun w' _ => ?_)) inferInstance ?_
      rotate_left
      · ((with_reducible apply ev_loadcellN); (exact rfl); infer_instance; infer_instance; (exact rfl))
      try simp only [Act.put, sA]; try simp only [sB, sC]
      refine' takeH (i := 8) (v := _) rfl (by kernel_rfl) (by kernel_rfl) (by kernel_rfl) (fun _ _ _ h => h) (yields_of (by rfl) (fun w' _ => ?_)) inferInstance ?_
      rotate_left
      · (go_simp; try with_reducible rfl)
      try simp only [Act.put, sA]; try simp only [sB, sC]
      refine' takeH (i := 9) (v := _) rfl (by kernel_rfl) (by kernel_rfl) (by kernel_rfl) (fun _ _ _ h => h) (yields_of (by rfl) (fun w' _ => ?_)) inferInstance ?_
      rotate_left
      · ((with_reducible apply (ev_indexE (α := MarkR) (t := 30))); (exact rfl); (exact rfl); infer_instance; infer_instance; (first | (with_reducible assumption) | omega | (focus (simp; done)) | (focus (simp; omega; done)) | decide); (exact rfl); (decide); (first | (with_reducible assumption) | omega | (focus (simp; done)) | (focus (simp; omega; done)) | decide))
      try simp only [Act.put, sA]; try simp only [sB, sC]
      refine' takeH (i := 10) (v := _) rfl (by kernel_rfl) (by kernel_rfl) (by kernel_rfl) (fun _ _ _ h => h) (yields_of (by rfl) (fun w' _ => ?_)) inferInstance ?_
      rotate_left
      · ((with_reducible apply (ev_fieldE (t := 133))); (exact Tryz.underlying133); (exact rfl); (kernel_rfl); (exact rfl); infer_instance; (exact cells_pos (by decide) (by omega)))
      try simp only [Act.put, sA]; try simp only [sB, sC]
      refine' takeH (i := 11) (v := _) rfl (by kernel_rfl) (by kernel_rfl) (by kernel_rfl) (fun _ _ _ h => h) (yields_of (by rfl) (fun w' _ => ?_)) inferInstance ?_
      rotate_left
      · ((with_reducible apply (ev_loadEPH (α := MarkR) (t := 23) (j := 0) (s := 35))); infer_instance; (exact rfl); infer_instance; (exact rfl); (first | (with_reducible assumption) | omega); (exact hv2))
      try simp only [Act.put, sA]; try simp only [sB, sC]
      refine' takeH (i := 12) (v := _) rfl (by kernel_rfl) (by kernel_rfl) (by kernel_rfl) (fun _ _ _ h => h) (yields_of (by rfl) (fun w' _ => ?_)) inferInstance ?_
      rotate_left
      · (go_simp; try with_reducible rfl)
      try simp only [Act.put, sA]; try simp only [sB, sC]
      try simp only [HKK.out]
      refine' takeH (i := 13) (v := _) rfl (by kernel_rfl) (by kernel_rfl) (by kernel_rfl) (fun _ _ _ h => h) (yields_of (by rfl) (fun w' _ => ?_)) inferInstance ?_
      rotate_left
      · (go_simp; try with_reducible rfl)
      try simp only [Act.put, sA]; try simp only [sB, sC]
      refine' takeH (i := 14) (v := _) rfl (by kernel_rfl) (by kernel_rfl) (by kernel_rfl) (fun _ _ _ h => h) (yields_of (by rfl) (fun w' _ => ?_)) inferInstance ?_
      rotate_left
      · (go_simp; try with_reducible rfl)
      try simp only [Act.put, sA]; try simp only [sB, sC]
      refine' takeH (i := 15) (v := _) rfl (by kernel_rfl) (by kernel_rfl) (by kernel_rfl) (fun _ _ _ h => h) (yields_of (by rfl) (fun w' _ => ?_)) inferInstance ?_
      rotate_left
      · ((with_reducible apply ev_loadcellN); (exact rfl); infer_instance; infer_instance; (exact rfl))
      try simp only [Act.put, sA]; try simp only [sB, sC]
      refine' takeH (i := 16) (v := _) rfl (by kernel_rfl) (by kernel_rfl) (by kernel_rfl) (fun _ _ _ h => h) (yields_of (by rfl) (fun w' _ => ?_)) inferInstance ?_
      rotate_left
      · (go_simp; try with_reducible rfl)
      try simp only [Act.put, sA]; try simp only [sB, sC]
      refine' takeH (i := 17) (v := _) rfl (by kernel_rfl) (by kernel_rfl) (by kernel_rfl) (fun _ _ _ h => h) (yields_of (by rfl) (fun w' _ => ?_)) inferInstance ?_
      rotate_left
      · ((with_reducible apply (ev_indexE (α := MarkR) (t := 30))); (exact rfl); (exact rfl); infer_instance; infer_instance; (first | (with_reducible assumption) | omega | (focus (simp; done)) | (focus (simp; omega; done)) | decide); (exact rfl); (decide); (first | (with_reducible assumption) | omega | (focus (simp; done)) | (focus (simp; omega; done)) | decide))
      try simp only [Act.put, sA]; try simp only [sB, sC]
      refine' takeH (i := 18) (v := _) rfl (by kernel_rfl) (by kernel_rfl) (by kernel_rfl) (fun _ _ _ h => h) (yields_of (by rfl) (fun w' _ => ?_)) inferInstance ?_
      rotate_left
      · ((with_reducible apply (ev_fieldE (t := 133))); (exact Tryz.underlying133); (exact rfl); (kernel_rfl); (exact rfl); infer_instance; (exact cells_pos (by decide) (by omega)))
      try simp only [Act.put, sA]; try simp only [sB, sC]
      refine' takeH (i := 19) (v := _) rfl (by kernel_rfl) (by kernel_rfl) (by kernel_rfl) (fun _ _ _ h => h) (yields_of (by rfl) (fun w' _ => ?_)) inferInstance ?_
      rotate_left
      · ((with_reducible apply (ev_loadEP (α := MarkR) (t := 126) (j := 32) (s := 35))); infer_instance; (exact rfl); infer_instance; (exact rfl); (decide); (first | (with_reducible assumption) | omega); (exact hv3); (exact rfl))
      try simp only [Act.put, sA]; try simp only [sB, sC]
      refine' takeH (i := 20) (v := _) rfl (by kernel_rfl) (by kernel_rfl) (by kernel_rfl) (fun _ _ _ h => h) (yields_of (by rfl) (fun w' _ => ?_)) inferInstance ?_
      rotate_left
      · (go_simp; try with_reducible rfl)
      try simp only [Act.put, sA]; try simp only [sB, sC]
      refine' takeH (i := 21) (v := _) rfl (by kernel_rfl) (by kernel_rfl) (by kernel_rfl) (fun _ _ _ h => h) (yields_of (by rfl) (fun w' _ => ?_)) inferInstance ?_
      rotate_left
      · ((with_reducible apply ev_loadcellN); (exact rfl); infer_instance; infer_instance; (exact rfl))
      try simp only [Act.put, sA]; try simp only [sB, sC]
      refine' takeH (i := 22) (v := _) rfl (by kernel_rfl) (by kernel_rfl) (by kernel_rfl) (fun _ _ _ h => h) (yields_of (by rfl) (fun w' _ => ?_)) inferInstance ?_
      rotate_left
      · (go_simp; try with_reducible rfl)
      try simp only [Act.put, sA]; try simp only [sB, sC]
      refine' takeH (i := 23) (v := _) rfl (by kernel_rfl) (by kernel_rfl) (by kernel_rfl) (fun _ _ _ h => h) (yields_of (by rfl) (fun w' _ => ?_)) inferInstance ?_
      rotate_left
      · ((with_reducible apply (ev_indexE (α := MarkR) (t := 30))); (exact rfl); (exact rfl); infer_instance; infer_instance; (first | (with_reducible assumption) | omega | (focus (simp; done)) | (focus (simp; omega; done)) | decide); (exact rfl); (decide); (first | (with_reducible assumption) | omega | (focus (simp; done)) | (focus (simp; omega; done)) | decide))
      try simp only [Act.put, sA]; try simp only [sB, sC]
      refine' takeH (i := 24) (v := _) rfl (by kernel_rfl) (by kernel_rfl) (by kernel_rfl) (fun _ _ _ h => h) (yields_of (by rfl) (fun w' _ => ?_)) inferInstance ?_
      rotate_left
      · ((with_reducible apply (ev_fieldE (t := 133))); (exact Tryz.underlying133); (exact rfl); (kernel_rfl); (exact rfl); infer_instance; (exact cells_pos (by decide) (by omega)))
      try simp only [Act.put, sA]; try simp only [sB, sC]
      refine' takeH (i := 25) (v := _) rfl (by kernel_rfl) (by kernel_rfl) (by kernel_rfl) (fun _ _ _ h => h) (yields_of (by rfl) (fun w' _ => ?_)) inferInstance ?_
      rotate_left
      · ((with_reducible apply (ev_loadEP (α := MarkR) (t := 126) (j := 32) (s := 35))); infer_instance; (exact rfl); infer_instance; (exact rfl); (decide); (first | (with_reducible assumption) | omega); (exact hv4); (exact rfl))
      try simp only [Act.put, sA]; try simp only [sB, sC]
      refine goH (i := 26) (by kernel_rfl) rfl (fun K_ hK_ => ?_)
      go_simp
      refine (rsame_calls (l1 := r.l) (l2 := r.p) (m1 := q.l) (m2 := q.p) rfl rfl rfl rfl HS1.out HS2.out).mono ?_
      rw [HSS.out]
      rintro e w5 ⟨rfl, _⟩
      refine hK_.out _ _ inferInstance (fun _ => ?_)
      clear hK_ K_
      try simp only [Act.put, sA]; try simp only [sB, sC]
      refine' takeH (i := 27) (v := _) rfl (by kernel_rfl) (by kernel_rfl) (by kernel_rfl) (fun _ _ _ h => h) (yields_of (by rfl) (fun w' _ => ?_)) inferInstance ?_
      rotate_left
      · (go_simp; try with_reducible rfl)
      try simp only [Act.put, sA]; try simp only [sB, sC]
      refine' takeH (i := 28) (v := _) rfl (by kernel_rfl) (by kernel_rfl) (by kernel_rfl) (fun _ _ _ h => h) (yields_of (by rfl) (fun w' _ => ?_)) inferInstance ?_
      rotate_left
      · (go_simp; try with_reducible rfl)
      try simp only [Act.put, sA]; try simp only [sB, sC]
      refine wpAnyH_done (by kernel_rfl) ?_ _
      go_wp2_with fail
      exact ⟨⟨k + 1, by omega, by go_num, stepN, inferInstance, inferInstance⟩, by simp [intOf]; omega⟩
    · have hltI : ¬ (k : Int) < nb := by omega
      go_wp2_with (first | ((with_reducible apply wpl_loadcellN); (exact rfl); infer_instance; (exact rfl)))
      go_ret
      exact ⟨rfl, stepN⟩
end Go.Proofs.YtgjnjhhhbkidbaaGreat
