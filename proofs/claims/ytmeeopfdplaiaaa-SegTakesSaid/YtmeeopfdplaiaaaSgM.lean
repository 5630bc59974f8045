/- further. -/
import Derived.Test.YtmeeopfdplaiaaaSgK
open Go Go.RowKit
namespace Go.Proofs.Ytmeeopfdplaiaaa
set_option maxRecDepth 100000 in
set_option maxHeartbeats 1600000 in
theorem further_calls (id : Int) (num : Nat) (now : Int) {A : Option Addr} {n c : Nat} {part : List UInt8} {w : World} {z : Nat} {S : Nat → Prop} {s : St} (h : JS w z S s) (hN : s.N ≤ 1000000000) (hm : s.m ≤ 1000000000) (hid : (Lit.int .i64 id).wf = true) (hp : Rd w A (bs part)) (_ : Apart S A (bs part)) (hn : part.length = n) (hn2 : n ≤ 1000) (hnum : num < 16)
    (h3 : -9223372036854775808 ≤ now) (h4 : now ≤ 9223372036854775807) :
    Calls Try.prog 31 #[.pointer (some ⟨z, 0, none⟩), .int .i64 id, .int .i64 (num : Int), .slice A n c, .int .i64 now] w (TkPost z S w (furtherS s id num part now)) := by
  have hR : HR w A (bs part) := ⟨hp⟩
  obtain ⟨F, M, hb, hr, hmm, hg⟩ := h.mem
  have hB : HB w z 79 #[.map M, .int .i64 s.N] := ⟨hb⟩
  have hJ : HMJ w M s.m (cellsG s F) := ⟨hmm⟩
  have hss := look_some s F id
  cases hs : s.G id with
  | none =>
    have hz4 := look_size s F id
    have hone := look_one s F id
    obtain ⟨lk, hlk⟩ : ∃ lk, (cellsG s F id).getD zMsgC = lk := ⟨_, rfl⟩
    rw [hlk] at hz4 hone
    have HL := Lib.hid hlk
    clear hlk
    rw [hs] at hss
    have HS := Lib.hid hss
    clear hss
    rw [further_none hs]
    go_enter Try.func31, Try.ntmps31
    go_wp2_with (first | go_skip | ((with_reducible apply wpl_lookMJ); exact rfl; exact rfl; infer_instance; (exact hid); (exact HL.out); (exact HS.out)) | ((with_reducible apply (wpl_alloc (dst := some 12))); intro zl wzl _ _ _) | ((with_reducible apply wpl_alloc); intro z wz _ _ _) | ((with_reducible apply (wpl_guard (op := .load _ _))); exact rfl) | ((with_reducible apply (wpl_guard (op := .fieldAddr _ _ _))); exact rfl) | ((with_reducible apply wpl_loadrow); exact rfl; infer_instance; infer_instance; (first | with_reducible assumption | (with_reducible exact H32.size _) | kernel_rfl)) | ((with_reducible apply wpl_loadcellN); exact rfl; infer_instance; exact rfl) | ((with_reducible apply wpl_storerow); exact rfl; exact rfl; infer_instance; infer_instance; (first | with_reducible assumption | (with_reducible exact H32.size _) | kernel_rfl); (first | with_reducible assumption | (with_reducible exact H32.size _) | kernel_rfl); (first | (with_reducible exact u8s_one _) | with_reducible assumption | kernel_rfl); intro ws _ _) | ((with_reducible apply wpl_storecell); exact rfl; exact rfl; infer_instance; exact rfl; (first | with_reducible assumption | omega | (focus (simp; done)) | (focus (simp; omega; done)) | decide); intro ws _ _))
    have hc0 : Chg nowhere w ws := stepN.chg
    refine (err_calls (h.calm hc0 (fun _ _ hk => hk)) hN).mono ?_
    rintro e w1 ⟨rfl, hJ1, hC⟩
    go_wp2_with fail
    go_ret2
    exact TkPost.err hJ1 ((hc0.mono (fun _ _ hk => hk.elim)).trans hC (fun _ _ hk => hk))
  | some v =>
    obtain ⟨vb, wh, nx, la⟩ := v
    obtain ⟨k1, k2, k3, k4, k5⟩ := h.ok.ok id _ hs
    have hown := hr.own id _ hs
    have hlk : (cellsG s F id).getD zMsgC = msgC (F id) ⟨vb, wh, nx, la⟩ := by rw [cellsG, hs]; rfl
    rw [hs] at hss
    have HS := Lib.hid hss
    clear hss
    cases M with
    | none =>
      have := hmm.2 id
      simp [asV, cellsG, hs] at this
    | some g =>
      have hm2 : MapIV Try.prog 3 zMsg w g s.m (asV (cellsG s F)) := hmm
      have hI : HMI Try.prog 3 zMsg w g s.m (asV (cellsG s F)) := ⟨hm2⟩
      have hzg : z ≠ g := MapIV.no_blk hm2 hb
      have o1 : OffB (only g) z := ⟨fun e => hzg e⟩
      have o2 : OffB (only z) g := ⟨fun e => hzg e.symm⟩
      obtain ⟨pA, hpA⟩ : ∃ x, (F id).A = x := ⟨_, rfl⟩
      obtain ⟨pc, hpc⟩ : ∃ x, (F id).c = x := ⟨_, rfl⟩
      obtain ⟨nb, hnb⟩ : ∃ x, vb.length = x := ⟨_, rfl⟩
      have HPA := Lib.hid hpA
      have HNB := Lib.hid hnb
      simp only [msgC] at hlk k1 k2 k3 k4 k5 hown
      rw [hpA, hpc, hnb] at hlk hown
      rw [hnb] at k1
      have HL := Lib.hid hlk
      clear hlk hpA hpc hnb
      have hO : HO w 5 1 pA nb pc (bs vb) := ⟨hown⟩
      have o3 : OffB (rowOf pA) z := ⟨fun ⟨ad, e, hk⟩ => own_no_blk hown hb (by decide) e hk⟩
      have o4 : OffB (rowOf pA) g := ⟨fun ⟨ad, e, hk⟩ => own_no_map hown hm2 e hk⟩
      have o5 : OffA (only g) pA := ⟨fun ad e hk => own_no_map hown hm2 e hk⟩
      by_cases c1 : num = nx
      · subst c1
        obtain ⟨mq, hmq⟩ : ∃ mq, min (wh - nb) 7 = mq := ⟨_, rfl⟩
        have HM := Lib.hid (show min ((wh : Int) - (nb : Int)) 7 = (mq : Int) by omega)
        have b0 : ((num : Int) != (num : Int)) = false := bneF rfl
        by_cases c2 : n = mq
        · have b1 : ((n : Int) != (mq : Int)) = false := bneF (by omega)
          have n7 : n ≤ 7 := by omega
          have nw : nb + n ≤ wh := by omega
          have HC := Lib.hid c2
          clear hmq c2
          have hbl : (vb ++ part).length = nb + n := by rw [List.length_append, hn]; have := HNB.out; omega
          have hrows : ∀ k v, k ≠ id → s.G k = some v → ∀ ad, (F k).A = some ad → ¬ tri z g pA ad.block := fun k v hne hk ad e hx => by
            rcases hx with hx | hx | ⟨ad', e', hx⟩
            · exact own_no_blk (hr.own k v hk) hb (by decide) e hx
            · exact own_no_map (hr.own k v hk) hm2 e hx
            · exact hr.apart k id v _ hk hs hne ad ad' e (HPA.out.trans e') hx.symm
          have htri : ∀ x, tri z g pA x → S x := fun x hx => by
            rcases hx with rfl | rfl | ⟨ad', e', hx⟩
            · exact h.inz
            · exact hg _ rfl
            · rw [← hx]; exact hr.inS id _ hs ad' (HPA.out.trans e')
          by_cases c3 : nb + n = wh
          · have hsp : furtherS s id num part now = (s.del id, some (vb ++ part)) := by
              unfold furtherS
              rw [hs]
              show (if num ≠ num ∨ part.length ≠ min (wh - vb.length) 7 then _ else if (vb ++ part).length = wh then _ else _) = _
              rw [if_neg (by have := HNB.out; have := HM.out; have := HC.out; omega), if_pos (by omega)]
            rw [hsp]
            have b2 : ((nb : Int) + (n : Int) == (wh : Int)) = true := beqT (by omega)
            go_enter Try.func31, Try.ntmps31
            go_wp2_with (first | go_skip | ((with_reducible apply wpl_lookMJ); exact rfl; exact rfl; infer_instance; (exact hid); (exact HL.out); (exact HS.out)) | ((with_reducible apply (wpl_guard (op := .call _))); exact rfl) | ((with_reducible apply wpl_mineq); exact rfl; exact rfl; (exact HM.out)) | ((with_reducible apply wpl_appendB); exact rfl; exact rfl; infer_instance; infer_instance; infer_instance; (exact hn); omega; intro A2 c2 wa s5 ho5 g5 hcap5) | ((with_reducible apply wpl_delMI); exact rfl; exact rfl; infer_instance; infer_instance; (exact hid); intro wp _ hI2) | ((with_reducible apply (wpl_alloc (dst := some 12))); intro zl wzl _ _ _) | ((with_reducible apply wpl_alloc); intro z wz _ _ _) | ((with_reducible apply (wpl_guard (op := .load _ _))); exact rfl) | ((with_reducible apply (wpl_guard (op := .fieldAddr _ _ _))); exact rfl) | ((with_reducible apply wpl_loadrow); exact rfl; infer_instance; infer_instance; (first | with_reducible assumption | (with_reducible exact H32.size _) | kernel_rfl)) | ((with_reducible apply wpl_loadcellN); exact rfl; infer_instance; exact rfl) | ((with_reducible apply wpl_storerow); exact rfl; exact rfl; infer_instance; infer_instance; (first | with_reducible assumption | (with_reducible exact H32.size _) | kernel_rfl); (first | with_reducible assumption | (with_reducible exact H32.size _) | kernel_rfl); (first | (with_reducible exact u8s_one _) | with_reducible assumption | kernel_rfl); intro ws _ _) | ((with_reducible apply wpl_storecell); exact rfl; exact rfl; infer_instance; exact rfl; (first | with_reducible assumption | omega | (focus (simp; done)) | (focus (simp; omega; done)) | decide); intro ws _ _))
            go_ret2
            have hc : Chg (tri z g pA) w wp := stepC.chg
            have hBz : HB wp z 79 #[.map (some g), .int .i64 s.N] := inferInstance
            have hRz : HR wp A2 (bs (vb ++ part)) := inferInstance
            refine ⟨S, A2, c2, ⟨h.ok.del id, h.inz, fun x hx => Nat.lt_of_lt_of_le (h.low x hx) hc.size, F, some g, hBz.out, hr.delT hc id hrows, ?_, hg⟩, ?_, hc.mono (fun x _ hx => htri x hx), fun x hx => .inl hx, hRz.out, fun _ ad e => ?_⟩
            · have h3 := hI2.out
              rw [asV_some, ← asV_del] at h3
              exact h3
            · show Ending.returned (.tuple #[.slice A2 wh c2, .bool true]) = .returned (.tuple #[.slice A2 (vb ++ part).length c2, .bool true])
              rw [hbl, c3]
            · rcases g5.out with k | k
              · exact .inl (hr.inS id _ hs ad (HPA.out.trans (k.symm.trans e)))
              · exact .inr ((NewA.szLe (w0 := w) k).out ad e)
          · have hsp : furtherS s id num part now = (s.put id ⟨vb ++ part, wh, (num + 1) % 16, now⟩, none) := by
              unfold furtherS
              rw [hs]
              show (if num ≠ num ∨ part.length ≠ min (wh - vb.length) 7 then _ else if (vb ++ part).length = wh then _ else _) = _
              rw [if_neg (by have := HNB.out; have := HM.out; have := HC.out; omega), if_neg (by omega)]
            rw [hsp]
            have hok : (s.put id ⟨vb ++ part, wh, (num + 1) % 16, now⟩).Ok := h.ok.put id _ ⟨by show (vb ++ part).length < wh; omega, k2, by show (num + 1) % 16 < 16; omega, h3, h4⟩
            have b2 : ((nb : Int) + (n : Int) == (wh : Int)) = false := beqF (by omega)
            have HLT := Lib.hid (show s.m < maxLen by unfold maxLen; omega)
            go_enter Try.func31, Try.ntmps31
            go_wp2_with (first | go_skip | ((with_reducible apply wpl_lookMJ); exact rfl; exact rfl; infer_instance; (exact hid); (exact HL.out); (exact HS.out)) | ((with_reducible apply (wpl_guard (op := .call _))); exact rfl) | ((with_reducible apply wpl_mineq); exact rfl; exact rfl; (exact HM.out)) | ((with_reducible apply wpl_appendB); exact rfl; exact rfl; infer_instance; infer_instance; infer_instance; (exact hn); omega; intro A2 c2 wa s5 ho5 g5 hcap5) | ((with_reducible apply (wpl_alloc (dst := some 12))); intro zl wzl _ _ _) | ((with_reducible apply wpl_alloc); intro z wz _ _ _) | ((with_reducible apply (wpl_guard (op := .load _ _))); exact rfl) | ((with_reducible apply (wpl_guard (op := .fieldAddr _ _ _))); exact rfl) | ((with_reducible apply wpl_loadrow); exact rfl; infer_instance; infer_instance; (first | with_reducible assumption | (with_reducible exact H32.size _) | kernel_rfl)) | ((with_reducible apply wpl_loadcellN); exact rfl; infer_instance; exact rfl) | ((with_reducible apply wpl_storerow); exact rfl; exact rfl; infer_instance; infer_instance; (first | with_reducible assumption | (with_reducible exact H32.size _) | kernel_rfl); (first | with_reducible assumption | (with_reducible exact H32.size _) | kernel_rfl); (first | (with_reducible exact u8s_one _) | with_reducible assumption | kernel_rfl); intro ws _ _) | ((with_reducible apply wpl_storecell); exact rfl; exact rfl; infer_instance; exact rfl; (first | with_reducible assumption | omega | (focus (simp; done)) | (focus (simp; omega; done)) | decide); intro ws _ _))
            refine wp_region_N ((only g)) (by kernel_rfl) (fun wd _ _ => ?_)
            refine' takeH (i := 0) (v := _) rfl (by kernel_rfl) (by kernel_rfl) (by kernel_rfl) (fun _ _ _ h => h) (yields_of (by rfl) (fun w' _ => ?_)) inferInstance ?_
            rotate_left
            · (go_simp; try with_reducible rfl)
            try simp only [Act.put, sA]; try simp only [sB, sC]
            refine' takeH (i := 1) (v := _) rfl (by kernel_rfl) (by kernel_rfl) (by kernel_rfl) (fun _ _ _ h => h) (yields_of (by rfl) (fun w' _ => ?_)) inferInstance ?_
            rotate_left
            · (go_simp; try with_reducible rfl)
            try simp only [Act.put, sA]; try simp only [sB, sC]
            refine' takeH (i := 2) (v := _) rfl (by kernel_rfl) (by kernel_rfl) (by kernel_rfl) (fun _ _ _ h => h) (yields_of (by rfl) (fun w' _ => ?_)) inferInstance ?_
            rotate_left
            · (go_simp; try with_reducible rfl)
            try simp only [Act.put, sA]; try simp only [sB, sC]
            refine' takeH (i := 3) (v := _) rfl (by kernel_rfl) (by kernel_rfl) (by kernel_rfl) (fun _ _ _ h => h) (yields_of (by rfl) (fun w' _ => ?_)) inferInstance ?_
            rotate_left
            · (first | ((with_reducible apply (ev_loadB (t := 5))); exact rfl; infer_instance; infer_instance; (first | with_reducible assumption | omega)) | ((with_reducible apply ev_loadrow); exact rfl; infer_instance; infer_instance; (first | with_reducible assumption | (with_reducible exact H32.size _) | kernel_rfl)) | ((with_reducible apply ev_loadcellN); exact rfl; infer_instance; infer_instance; exact rfl) | ((with_reducible apply (ev_loadint (t := 3))); exact rfl; infer_instance; infer_instance; (first | with_reducible assumption | omega)) | ((with_reducible apply (ev_loadbyte (t := 5))); exact rfl; infer_instance; infer_instance; (first | with_reducible assumption | omega)) | (go_simp; try with_reducible rfl))
            try simp only [Act.put, sA]; try simp only [sB, sC]
            refine' takeH (i := 4) (v := _) rfl (by kernel_rfl) (by kernel_rfl) (by kernel_rfl) (fun _ _ _ h => h) (yields_of (by rfl) (fun w' _ => ?_)) inferInstance ?_
            rotate_left
            · (go_simp; try with_reducible rfl)
            try simp only [Act.put, sA]; try simp only [sB, sC]
            refine' takeH (i := 5) (v := _) rfl (by kernel_rfl) (by kernel_rfl) (by kernel_rfl) (fun _ _ _ h => h) (yields_of (by rfl) (fun w' _ => ?_)) inferInstance ?_
            rotate_left
            · (first | ((with_reducible apply (ev_loadB (t := 5))); exact rfl; infer_instance; infer_instance; (first | with_reducible assumption | omega)) | ((with_reducible apply ev_loadrow); exact rfl; infer_instance; infer_instance; (first | with_reducible assumption | (with_reducible exact H32.size _) | kernel_rfl)) | ((with_reducible apply ev_loadcellN); exact rfl; infer_instance; infer_instance; exact rfl) | ((with_reducible apply (ev_loadint (t := 3))); exact rfl; infer_instance; infer_instance; (first | with_reducible assumption | omega)) | ((with_reducible apply (ev_loadbyte (t := 5))); exact rfl; infer_instance; infer_instance; (first | with_reducible assumption | omega)) | (go_simp; try with_reducible rfl))
            try simp only [Act.put, sA]; try simp only [sB, sC]
            refine goH (i := 6) (by kernel_rfl) rfl (fun K_ hK_ => ?_)
            rw [if_pos (by kernel_rfl)]
            refine wpr_of_list ?_
            (first | ((with_reducible apply wpl_putMI); exact rfl; exact rfl; exact rfl; infer_instance; infer_instance; (exact HLT.out); (exact hid); intro wp _ hI2) | ((with_reducible apply wpl_putMI); exact rfl; exact rfl; exact rfl; infer_instance; infer_instance; (first | with_reducible assumption | omega); (first | with_reducible assumption | (exact wfI (by omega) (by omega))); intro wp _ _))
            refine wpList_nil ?_
            unfold onlyN
            refine hK_.out _ _ inferInstance (fun _ => ?_)
            clear hK_ K_
            try simp only [Act.put]
            refine wpAnyH_done (by kernel_rfl) ?_ _
            go_wp2_with fail
            go_ret2
            have hc : Chg (tri z g pA) w wp := stepC.chg
            have hBz : HB wp z 79 #[.map (some g), .int .i64 s.N] := inferInstance
            have hOz : HO wp 5 1 A2 (nb + n) c2 (bs (vb ++ part)) := inferInstance
            have e2 : msgC ⟨A2, c2⟩ ⟨vb ++ part, wh, (num + 1) % 16, now⟩ = #[.slice A2 (nb + n) c2, .int .i64 (wh : Int), .int .i64 (((num : Int) + 1) % 16), .int .i64 now] := by
              rw [msgC]
              simp only [hbl]
              rw [show (((num + 1) % 16 : Nat) : Int) = ((num : Int) + 1) % 16 by omega]
            refine ⟨_, none, 0, put_close (q := ⟨A2, c2⟩) hok h.inz h.low hr hc hrows hBz.out (.inl (hg g rfl)) ?_ (by rw [hbl]; exact hOz.out) (fun ad e => ?_), rfl, hc.mono (fun x _ hx => htri x hx), fun x hx => hx.imp (fun h => h) (fun h => h.1), Rd.nil _ _, fun hne => absurd rfl hne⟩
            · rw [e2]
              exact hI2.out
            · rcases g5.out with k | k
              · exact .inl ⟨_, hs, HPA.out.trans (k.symm.trans e)⟩
              · exact .inr ((NewA.szLe (w0 := w) k).out ad e)
        · have hsp : furtherS s id num part now = (s.drop id, none) := by
            unfold furtherS
            rw [hs]
            show (if num ≠ num ∨ part.length ≠ min (wh - vb.length) 7 then _ else _) = _
            rw [if_pos (.inr (by have := HNB.out; omega))]
          rw [hsp]
          have b1 : ((n : Int) != (mq : Int)) = true := bneT (by omega)
          clear hmq
          go_enter Try.func31, Try.ntmps31
          go_wp2_with (first | go_skip | ((with_reducible apply wpl_lookMJ); exact rfl; exact rfl; infer_instance; (exact hid); (exact HL.out); (exact HS.out)) | ((with_reducible apply (wpl_guard (op := .call _))); exact rfl) | ((with_reducible apply wpl_mineq); exact rfl; exact rfl; (exact HM.out)) | ((with_reducible apply (wpl_alloc (dst := some 12))); intro zl wzl _ _ _) | ((with_reducible apply wpl_alloc); intro z wz _ _ _) | ((with_reducible apply (wpl_guard (op := .load _ _))); exact rfl) | ((with_reducible apply (wpl_guard (op := .fieldAddr _ _ _))); exact rfl) | ((with_reducible apply wpl_loadrow); exact rfl; infer_instance; infer_instance; (first | with_reducible assumption | (with_reducible exact H32.size _) | kernel_rfl)) | ((with_reducible apply wpl_loadcellN); exact rfl; infer_instance; exact rfl) | ((with_reducible apply wpl_storerow); exact rfl; exact rfl; infer_instance; infer_instance; (first | with_reducible assumption | (with_reducible exact H32.size _) | kernel_rfl); (first | with_reducible assumption | (with_reducible exact H32.size _) | kernel_rfl); (first | (with_reducible exact u8s_one _) | with_reducible assumption | kernel_rfl); intro ws _ _) | ((with_reducible apply wpl_storecell); exact rfl; exact rfl; infer_instance; exact rfl; (first | with_reducible assumption | omega | (focus (simp; done)) | (focus (simp; omega; done)) | decide); intro ws _ _))
          have hc0 : Chg nowhere w ws := stepN.chg
          refine (drop_calls id (h.calm hc0 (fun _ _ hk => hk)) hN hid).mono ?_
          rintro e w1 ⟨rfl, hJ1, hC⟩
          go_wp2_with fail
          go_ret2
          exact ⟨S, none, 0, hJ1, rfl, (hc0.mono (fun _ _ hk => hk.elim)).trans hC (fun _ _ hk => hk), fun _ hx => .inl hx, Rd.nil _ _, fun hne => absurd rfl hne⟩
      · rw [further_wrong hs (show num ≠ nx from c1)]
        have b0 : ((num : Int) != (nx : Int)) = true := bneT (by omega)
        go_enter Try.func31, Try.ntmps31
        go_wp2_with (first | go_skip | ((with_reducible apply wpl_lookMJ); exact rfl; exact rfl; infer_instance; (exact hid); (exact HL.out); (exact HS.out)) | ((with_reducible apply (wpl_alloc (dst := some 12))); intro zl wzl _ _ _) | ((with_reducible apply wpl_alloc); intro z wz _ _ _) | ((with_reducible apply (wpl_guard (op := .load _ _))); exact rfl) | ((with_reducible apply (wpl_guard (op := .fieldAddr _ _ _))); exact rfl) | ((with_reducible apply wpl_loadrow); exact rfl; infer_instance; infer_instance; (first | with_reducible assumption | (with_reducible exact H32.size _) | kernel_rfl)) | ((with_reducible apply wpl_loadcellN); exact rfl; infer_instance; exact rfl) | ((with_reducible apply wpl_storerow); exact rfl; exact rfl; infer_instance; infer_instance; (first | with_reducible assumption | (with_reducible exact H32.size _) | kernel_rfl); (first | with_reducible assumption | (with_reducible exact H32.size _) | kernel_rfl); (first | (with_reducible exact u8s_one _) | with_reducible assumption | kernel_rfl); intro ws _ _) | ((with_reducible apply wpl_storecell); exact rfl; exact rfl; infer_instance; exact rfl; (first | with_reducible assumption | omega | (focus (simp; done)) | (focus (simp; omega; done)) | decide); intro ws _ _))
        have hc0 : Chg nowhere w ws := stepN.chg
        refine (drop_calls id (h.calm hc0 (fun _ _ hk => hk)) hN hid).mono ?_
        rintro e w1 ⟨rfl, hJ1, hC⟩
        go_wp2_with fail
        go_ret2
        exact ⟨S, none, 0, hJ1, rfl, (hc0.mono (fun _ _ hk => hk.elim)).trans hC (fun _ _ hk => hk), fun _ hx => .inl hx, Rd.nil _ _, fun hne => absurd rfl hne⟩
end Go.Proofs.Ytmeeopfdplaiaaa
