/- QmC, QmD, QmE, UnC -/
import Derived.Test.YtmnapacibpnodaaGreatUeQmB
import Derived.Test.YtmnapacibpnodaaGreatUeRoR
section
open Go Go.RowKit Go.WideMaps
namespace Go.Proofs.YtmnapacibpnodaaGreat
instance iQmC_1 : HashKey Tryz.prog 26 5 := ⟨⟨Tryz.underlying26, by kernel_rfl, by kernel_rfl, by kernel_rfl⟩, Tryz.underlying5, ⟨Tryz.prog.types.size - 1, by kernel_rfl⟩⟩
instance iQmC_2 : MapHT Tryz.prog 134 26 := ⟨⟨5, inferInstance⟩, ⟨135, Tryz.underlying134, fun _ => by kernel_rfl⟩⟩
instance iQmC_3 : ZeroT Tryz.prog 135 #[] := ⟨.agg #[], fun _ => by kernel_rfl, rfl⟩
instance iQmC_4 : RowT Tryz.prog 135 0 := ⟨by kernel_rfl, _, Tryz.underlying135, rfl⟩
instance OffB.bornHMH (w : World) (z g m : Nat) (f : H32 → Bool) [b : Born w z] [h : HMH Tryz.prog 26 w g m f] : OffB (only z) g := ⟨fun e => by
  have e' : g = z := e
  have := h.out.lt
  rw [e', b.eq] at this
  omega⟩
instance OffB.laterHMH (w : World) (z g m : Nat) (f : H32 → Bool) [b : Born w g] [h : HMH Tryz.prog 26 w z m f] : OffB (only z) g := ⟨fun e => by
  have e' : g = z := e
  have := h.out.lt
  rw [← e', b.eq] at this
  omega⟩
instance OffB.grewHMH (w : World) (A A' : Option Addr) (g m : Nat) (f : H32 → Bool) [k : Grew w A A'] [h : HMH Tryz.prog 26 w g m f] [o : OffB (rowOf A) g] : OffB (rowOf A') g := ⟨fun ⟨ad, e, hk⟩ => by
  rcases k.out with h1 | h1
  · rw [h1] at e
    exact o.out ⟨ad, e, hk⟩
  · rw [h1] at e
    injection e with e
    have := h.out.lt
    rw [← hk, ← e] at this
    exact absurd this (Nat.lt_irrefl _)⟩
theorem OffA.ofRow {A : Option Addr} {g : Nat} (h : OffB (rowOf A) g) : OffA (only g) A := ⟨fun ad e hk => h.out ⟨ad, e, hk⟩⟩
theorem take_snoc (ks : List H32) (k : Nat) (h : k < ks.length) : ks.take (k + 1) = ks.take k ++ [hget ks k] := by
  rw [← List.take_append_getElem h]
  simp [hget, List.getD_eq_getElem?_getD, h]
/-- a row of digests of its own is what is told -/
def WhoPost (R : List H32) (w w' : World) (e : Ending) : Prop := ∃ B n' c', e = .returned (.slice B n' c') ∧ R.length = n' ∧ HR w' B (cellsOf R) ∧ Step nowhere w w'
theorem whoN_in (m : List UInt8) (l : List MarkR) (ks : List H32) (k : Nat) (h : hget ks k ∈ ks.take k) : whoN m l ks (k + 1) = whoN m l ks k := by
  rw [whoN, if_pos h, List.append_nil]
theorem whoN_out (m : List UInt8) (l : List MarkR) (ks : List H32) (k : Nat) (h : ¬ hget ks k ∈ ks.take k) (hs : (l.take 4).any (signsB m (hget ks k)) = false) : whoN m l ks (k + 1) = whoN m l ks k := by
  rw [whoN, if_neg h, hs, if_neg (by decide), List.append_nil]
theorem whoN_more (m : List UInt8) (l : List MarkR) (ks : List H32) (k : Nat) (h : ¬ hget ks k ∈ ks.take k) (hs : (l.take 4).any (signsB m (hget ks k)) = true) : whoN m l ks (k + 1) = whoN m l ks k ++ [hget ks k] := by
  rw [whoN, if_neg h, hs, if_pos rfl]
set_option maxRecDepth 100000 in
set_option maxHeartbeats 3200000 in
theorem who_calls {m : List UInt8} {nb cb n c nk ck : Nat} {M A K : Option Addr} {l : List MarkR} {ks : List H32} (need : Int) {w : World} [hm : HR w M (bs m)] [hr : HR w A (cellsOf l)] [hK : HR w K (cellsOf ks)] (hM : ∀ r ∈ l, MarkIn w r) (hl : l.length = n) (hc : n ≤ c) (hmax : n ≤ 9223372036854775807) (hlm : m.length = nb) (hcap : nb ≤ cb) (hn : nb ≤ 140737488351232) (hk : ks.length = nk) (hk9 : nk ≤ 10000) :
    Calls Tryz.prog 46 #[.agg #[.slice M nb cb, .slice A n c], .agg #[.slice K nk ck, .int .i64 need]] w fun e w' => WhoPost (whoN m l ks nk) w w' e := by
  obtain ⟨n4, hn4⟩ : ∃ n4, n4 = min n 4 := ⟨_, rfl⟩
  have hn4i : min (n : Int) 4 = (n4 : Int) := by omega
  have hn4c : n4 ≤ c := by omega
  have hn49 : n4 ≤ 9223372036854775807 := by omega
  have HL4 : Hid ((l.take 4).length = n4) := Lib.hid (by rw [List.length_take]; omega)
  have hr4 : HR w A (cellsOf (l.take 4)) := HR.takeR hr 4
  clear hr
  have HMI : Hid (∀ r ∈ l.take 4, MarkIn w r) := Lib.hid (fun r h => hM r (List.mem_of_mem_take h))
  have HM := Lib.hid hlm
  have HKL := Lib.hid hk
  have HN4 := Lib.hid hn4i
  clear hM hlm hl hn4 hn4i
  have kb0 : ∀ w, (Instr.build 135 #[]).run Tryz.prog w = .ok (.agg #[]) w := fun _ => by kernel_rfl
  go_enter Tryz.func46, Tryz.ntmps46
  go_wp2_with (first | ((with_reducible apply wpl_mineq); (exact rfl); (exact rfl); (exact HN4.out)) | ((with_reducible apply wpl_makeHM); infer_instance; intro gm wm _ _ _) | ((with_reducible apply (wpl_box_agg (dst := some 2))); (exact rfl); intro ze wze _ _ _) | ((with_reducible apply (wpl_box_agg (dst := some 3))); (exact rfl); intro zk wzk _ _ _) | ((with_reducible apply wpl_loadcellN); (exact rfl); infer_instance; (exact rfl)))
  have o1 : OffB (only gm) ze := inferInstance
  have o2 : OffB (only gm) zk := inferInstance
  have o3 : OffR (only gm) M (bs m) := inferInstance
  have o4 : OffR (only gm) A (cellsOf (l.take 4)) := inferInstance
  have o5 : OffR (only gm) K (cellsOf ks) := inferInstance
  go_loopw [7, 23] (fun sv kv wr => ∃ (k : Nat) (B : Option Addr) (c2 mm nw : Nat) (f : H32 → Bool) (W : List H32), k ≤ nk ∧ mm ≤ k ∧ nw ≤ k ∧ kv = .int .i64 (k : Int) ∧ sv = .slice B nw c2 ∧ Hid (∀ h, f h = decide (h ∈ ks.take k)) ∧ Hid (W = whoN m l ks k) ∧ Hid (W.length = nw) ∧ Step nowhere w wr ∧ HMH Tryz.prog 26 wr gm mm f ∧ HO wr 26 32 B nw c2 (cellsOf W) ∧ NewA w B ∧ OffB (rowOf B) gm ∧ OffB (rowOf B) ze ∧ OffB (rowOf B) zk ∧ HB wr ze 37 #[.slice M nb cb, .slice A n c] ∧ HB wr zk 73 #[.slice K nk ck, .int .i64 need]) (fun _ kv _ => nk - (intOf kv).toNat)
  case atStart => exact ⟨0, none, 0, 0, 0, fun _ => false, [], Nat.zero_le _, Nat.le_refl _, Nat.le_refl _, rfl, rfl, Lib.hid (fun h => by simp), Lib.hid rfl, Lib.hid rfl, stepN, inferInstance, ⟨Own.nil _ _ _⟩, NewA.of_none _, inferInstance, inferInstance, inferInstance, inferInstance, inferInstance⟩
  case round =>
    obtain ⟨k, B, c2, mm, nw, f, W, hkn, hmk, hnw, rfl, rfl, HF, HW, HWL, _, _, _, _, hob, _, _, _, _⟩ := hrel
    have o6 : OffA (only gm) B := OffA.ofRow hob
    by_cases hlt : k < nk
    · have hltI : (k : Int) < nk := by omega
      have hkl : k < ks.length := by
        have := HKL.out
        omega
      have hmx : mm < maxLen := by
        unfold maxLen
        omega
      obtain ⟨x, hx⟩ : ∃ x, x = hget ks k := ⟨_, rfl⟩
      have hTK := take_snoc ks k hkl
      rw [← hx] at hTK
      by_cases hin : x ∈ ks.take k
      · have hfx : f x = true := by rw [HF.out, decide_eq_true hin]
        have HF2 : Hid (∀ h, f h = decide (h ∈ ks.take (k + 1))) := Lib.hid (fun h => by
          rw [HF.out, hTK]
          refine decide_eq_decide.2 ⟨fun h1 => List.mem_append_left _ h1, fun h1 => ?_⟩
          rcases List.mem_append.1 h1 with h1 | h1
          · exact h1
          · rw [List.mem_singleton.1 h1]
            exact hin)
        have HW2 : Hid (W = whoN m l ks (k + 1)) := Lib.hid (by rw [whoN_in m l ks k (by rw [← hx]; exact hin)]; exact HW.out)
        have HX := Lib.hid hx
        clear hin hTK hx
        rw [HX.out] at hfx
        go_wp2_with (first | ((with_reducible apply wpl_lookHM); (exact rfl); (exact rfl); infer_instance; infer_instance) | ((with_reducible apply (wpl_alloc (dst := some 9))); intro zh wzh _ _ _) | ((with_reducible apply (wpl_alloc (dst := some 10))); intro zu wzu _ _ _) | ((with_reducible apply wpl_loadrow); (exact rfl); infer_instance; infer_instance; (first | (with_reducible assumption) | (with_reducible exact H32.size _) | kernel_rfl)) | ((with_reducible apply wpl_storerow); (exact rfl); (exact rfl); infer_instance; infer_instance; (first | (with_reducible assumption) | (with_reducible exact H32.size _) | kernel_rfl); (first | (with_reducible assumption) | (with_reducible exact H32.size _) | kernel_rfl); (first | (with_reducible exact u8s_one _) | (with_reducible assumption) | kernel_rfl); intro ws _ _) | ((with_reducible apply wpl_indexH); (exact rfl); (exact rfl); infer_instance; infer_instance; (first | (with_reducible assumption) | omega); (first | (with_reducible assumption) | omega); (first | (with_reducible assumption) | omega)) | ((with_reducible apply (wpl_loadhash (t := 26))); (exact rfl); infer_instance; infer_instance; (first | (with_reducible assumption) | omega)))
        refine ⟨⟨k + 1, B, c2, mm, nw, f, W, by omega, by omega, by omega, by go_num, rfl, HF2, HW2, HWL, stepN, inferInstance, inferInstance, inferInstance, inferInstance, inferInstance, inferInstance, inferInstance, inferInstance⟩, by simp [intOf]; omega⟩
      · have hfx : f x = false := by rw [HF.out, decide_eq_false hin]
        have HF2 : Hid (∀ h, (decide (h = hget ks k) || f h) = decide (h ∈ ks.take (k + 1))) := Lib.hid (fun h => by
          rw [HF.out, hTK, Bool.eq_iff_iff, ← hx]
          simp [or_comm])
        have HMK : Hid ((if f (hget ks k) then mm else mm + 1) ≤ k + 1) := Lib.hid (by split <;> omega)
        obtain ⟨V, hV⟩ : ∃ V, V = (l.take 4).any (signsB m x) := ⟨_, rfl⟩
        have HV := Lib.hid hV
        have HX := Lib.hid hx
        have HIN : Hid (¬ hget ks k ∈ ks.take k) := Lib.hid (by rw [← hx]; exact hin)
        have kb1 := run_oneH (hget ks k)
        clear hin hTK hV
        rw [HX.out] at hfx
        clear hx
        cases V with
        | false =>
          have HW2 : Hid (W = whoN m l ks (k + 1)) := Lib.hid (by rw [whoN_out m l ks k HIN.out (by rw [← HX.out, ← HV.out])]; exact HW.out)
          go_wp2_with (first | ((with_reducible apply wpl_lookHM); (exact rfl); (exact rfl); infer_instance; infer_instance) | ((with_reducible apply wpl_build); (exact kb0 _)) | ((with_reducible apply wpl_putHM); (exact rfl); (exact rfl); (exact rfl); infer_instance; infer_instance; (exact hmx); intro wp _ _) | ((with_reducible apply (wpl_alloc (dst := some 9))); intro zh wzh _ _ _) | ((with_reducible apply (wpl_alloc (dst := some 10))); intro zu wzu _ _ _) | ((with_reducible apply wpl_loadrow); (exact rfl); infer_instance; infer_instance; (first | (with_reducible assumption) | (with_reducible exact H32.size _) | kernel_rfl)) | ((with_reducible apply wpl_loadcellN); (exact rfl); infer_instance; (exact rfl)) | ((with_reducible apply wpl_storerow); (exact rfl); (exact rfl); infer_instance; infer_instance; (first | (with_reducible assumption) | (with_reducible exact H32.size _) | kernel_rfl); (first | (with_reducible assumption) | (with_reducible exact H32.size _) | kernel_rfl); (first | (with_reducible exact u8s_one _) | (with_reducible assumption) | kernel_rfl); intro ws _ _) | ((with_reducible apply wpl_indexH); (exact rfl); (exact rfl); infer_instance; infer_instance; (first | (with_reducible assumption) | omega); (first | (with_reducible assumption) | omega); (first | (with_reducible assumption) | omega)) | ((with_reducible apply (wpl_loadhash (t := 26))); (exact rfl); infer_instance; infer_instance; (first | (with_reducible assumption) | omega)))
          refine (signed_calls (l := l.take 4) (hget ks k) (fun r h => MarkIn.nw (HMI.out r h)) HL4.out hn49 HM.out hcap hn).mono ?_
          rw [← HX.out, ← HV.out]
          rintro e ww ⟨rfl, _⟩
          rw [HX.out]
          go_wp2_with fail
          refine ⟨⟨k + 1, B, c2, _, nw, _, W, by omega, HMK.out, by omega, by go_num, rfl, HF2, HW2, HWL, stepN, inferInstance, inferInstance, inferInstance, inferInstance, inferInstance, inferInstance, inferInstance, inferInstance⟩, by simp [intOf]; omega⟩
        | true =>
          have HW2 : Hid (W ++ [x] = whoN m l ks (k + 1)) := Lib.hid (by rw [whoN_more m l ks k HIN.out (by rw [← HX.out, ← HV.out]), ← HW.out, ← HX.out])
          have hnw1 : nw + 1 ≤ 1000000000 := by omega
          go_wp2_with (first | ((with_reducible apply wpl_lookHM); (exact rfl); (exact rfl); infer_instance; infer_instance) | ((with_reducible apply wpl_build); (exact kb0 _)) | ((with_reducible apply wpl_putHM); (exact rfl); (exact rfl); (exact rfl); infer_instance; infer_instance; (exact hmx); intro wp _ _) | ((with_reducible apply (wpl_alloc (dst := some 9))); intro zh wzh _ _ _) | ((with_reducible apply (wpl_alloc (dst := some 10))); intro zu wzu _ _ _) | ((with_reducible apply wpl_loadrow); (exact rfl); infer_instance; infer_instance; (first | (with_reducible assumption) | (with_reducible exact H32.size _) | kernel_rfl)) | ((with_reducible apply wpl_loadcellN); (exact rfl); infer_instance; (exact rfl)) | ((with_reducible apply wpl_storerow); (exact rfl); (exact rfl); infer_instance; infer_instance; (first | (with_reducible assumption) | (with_reducible exact H32.size _) | kernel_rfl); (first | (with_reducible assumption) | (with_reducible exact H32.size _) | kernel_rfl); (first | (with_reducible exact u8s_one _) | (with_reducible assumption) | kernel_rfl); intro ws _ _) | ((with_reducible apply wpl_indexH); (exact rfl); (exact rfl); infer_instance; infer_instance; (first | (with_reducible assumption) | omega); (first | (with_reducible assumption) | omega); (first | (with_reducible assumption) | omega)) | ((with_reducible apply (wpl_loadhash (t := 26))); (exact rfl); infer_instance; infer_instance; (first | (with_reducible assumption) | omega)))
          refine (signed_calls (l := l.take 4) (hget ks k) (fun r h => MarkIn.nw (HMI.out r h)) HL4.out hn49 HM.out hcap hn).mono ?_
          rw [← HX.out, ← HV.out]
          rintro e ww ⟨rfl, _⟩
          rw [HX.out]
          go_wp2_with (first | ((with_reducible apply (stop_dst (dst := some 44))); (try simp only [Act.put, sA, sB, sC]); ((with_reducible apply (wpl_bslice (dst := some 44))); (exact kb1 _); intro zs wb _ _ _)) | ((with_reducible apply wpl_appendH); (exact rfl); (exact rfl); infer_instance; infer_instance; infer_instance; (exact hnw1); intro B2 c3 wa _ _ _ _) | ((with_reducible apply wpl_loadrow); (exact rfl); infer_instance; infer_instance; (first | (with_reducible assumption) | (with_reducible exact H32.size _) | kernel_rfl)))
          have HWL2 : Hid ((W ++ [hget ks k]).length = nw + 1) := Lib.hid (by rw [List.length_append, HWL.out]; rfl)
          have HW3 : Hid (W ++ [hget ks k] = whoN m l ks (k + 1)) := Lib.hid (by rw [← HX.out]; exact HW2.out)
          refine ⟨⟨k + 1, B2, c3, _, nw + 1, _, W ++ [hget ks k], by omega, HMK.out, by omega, by go_num, rfl, HF2, HW3, HWL2, stepN, inferInstance, inferInstance, inferInstance, inferInstance, inferInstance, inferInstance, inferInstance, inferInstance⟩, by simp [intOf]; omega⟩
    · have hltI : ¬ (k : Int) < nk := by omega
      have hkn2 : k = nk := by omega
      have HWW : Hid (W = whoN m l ks nk) := Lib.hid (by rw [← hkn2]; exact HW.out)
      clear hkn2
      go_wp2_with fail
      go_ret
      rw [← HWW.out]
      exact ⟨B, nw, c2, rfl, HWL.out, inferInstance, stepN⟩
end Go.Proofs.YtmnapacibpnodaaGreat
end
section
open Go Go.RowKit Go.WideMaps
namespace Go.Proofs.YtmnapacibpnodaaGreat
end Go.Proofs.YtmnapacibpnodaaGreat
end
section
open Go Go.RowKit Go.WideMaps
namespace Go.Proofs.YtmnapacibpnodaaGreat
end Go.Proofs.YtmnapacibpnodaaGreat
end
section

end
