/- RoB, RoC, SnA, SnB, RoE, RoF, SnC, RoD, RoG, SnD -/
import Derived.Test.YtmnapacibpnodaaGreatUeRoR
import Derived.Test.YtmnapacibpnodaaGreatUeRoM
import Derived.Test.YtmnapacibpnodaaGreatUeSnM
import Derived.Test.YtmnapacibpnodaaGreatUeWuC
import Derived.Test.YtmnapacibpnodaaGreatUeWuA
import Derived.Test.YtmnapacibpnodaaGreatUeOcRfC
import Derived.Test.YtmnapacibpnodaaGreatUeRrB
import Derived.Test.YtmnapacibpnodaaGreatUeWyQ
section
open Go Go.RowKit
namespace Go.Proofs.YtmnapacibpnodaaGreat
instance cellFHash : CellT Tryz.prog 220 := ⟨fun _ => by kernel_rfl, fun _ => by kernel_rfl⟩
theorem FldPost.mono {w : World} {ys zs : List UInt8} {U V : Nat → Prop} (hy : ys = zs) (hU : ∀ x, U x → V x) : ∀ e w', FldPost w ys U e w' → FldPost w zs V e w' := by
  rintro e w' ⟨f, caps, T, rfl, hs, hL, hT⟩
  subst hy
  exact ⟨f, caps, T, rfl, hs, hL, fun x hx => (hT x hx).imp id (hU x)⟩
set_option maxRecDepth 100000 in
set_option maxHeartbeats 1600000 in
theorem each1H_calls {w : World} {g zl zf n c : Nat} {A B : Option Addr} {xs : List UInt8} {l : List H32} {t1 t2 : TypeId} {fx : FuncId} (hf : fx = 157) (ys : H32 → List UInt8) (U : Nat → Prop) (hw : WrAt w g A xs) [h1 : HB w zl t1 #[.slice B n c]] [h2 : HB w zf t2 #[.func (.func fx) #[] #[]]] (hr : Rd w B (cellsOf l)) (hl : l.length = n) (hm : n ≤ 1000000000)
    (hU : ∀ x, U x → ¬ Wf g A x) (hUl : ∀ x, U x → x < w.heap.size) (hzl : ¬ Wf g A zl) (hzf : ¬ Wf g A zf) (hB : Apart (Wf g A) B (cellsOf l)) (hlay : ∀ x ∈ l, ∀ w1, Chg (fun x => ¬ U x) w w1 → Calls Tryz.prog 157 #[.agg (u8s x.l)] w1 (FldPost w1 (ys x) U)) (hx : xs.length + (l.flatMap ys).length ≤ 1000000000) :
    Calls Tryz.prog 182 #[.pointer (some ⟨g, 0, none⟩), .pointer (some ⟨zl, 0, none⟩), .pointer (some ⟨zf, 0, none⟩)] w fun e w' => e = .returned (.tuple #[]) ∧ ∃ A', WrAt w' g A' (xs ++ l.flatMap ys) ∧ Chg (Wf g A) w w' ∧ Moved w A A' := by
  subst hf
  have HL := Lib.hid hl
  have HLAY := Lib.hid hlay
  have HX := Lib.hid hx
  clear hlay hx
  go_enter Tryz.func182, Tryz.ntmps182
  go_wp2_with (first | ((with_reducible apply wpl_loadcellN); (exact rfl); infer_instance; (exact rfl)))
  go_loopw [8] (fun iv wr => ∃ (k : Nat) (A1 : Option Addr), k ≤ n ∧ iv = .int .i64 (k : Int) ∧ WrAt wr g A1 (xs ++ (l.take k).flatMap ys) ∧ Chg (Wf g A) w wr ∧ Moved w A A1) (fun iv _ => n - (intOf iv).toNat)
  case atStart => exact ⟨0, A, Nat.zero_le _, rfl, by simpa using hw, Chg.refl _ _, Moved.refl _ _⟩
  case round =>
    obtain ⟨k, A1, hk, rfl, hW, hC, hM⟩ := hrel
    have HW := Lib.hid hW
    have HM := Lib.hid hM
    clear hW hM
    by_cases hlt : k < n
    · have hltI : (k : Int) < n := by omega
      have hkl : k < l.length := by omega
      have hr1 : HR wr B (cellsOf l) := ⟨hr.chg hC hB⟩
      have k2 : HB wr zf t2 #[.func (.func 157) #[] #[]] := ⟨h2.out.chg hC hzf⟩
      have hmem : gt l k ∈ l := gt_mem l k hkl
      have HTK : Hid ((l.take (k + 1)).flatMap ys = (l.take k).flatMap ys ++ ys (gt l k)) := Lib.hid (by
        rw [← List.take_append_getElem hkl, List.flatMap_append]
        simp [gt, List.getD_eq_getElem?_getD, hkl])
      have HLE : Hid (((l.take k).flatMap ys).length + (ys (gt l k)).length ≤ (l.flatMap ys).length) := Lib.hid (by
        have e : l.flatMap ys = (l.take (k + 1)).flatMap ys ++ (l.drop (k + 1)).flatMap ys := by rw [← List.flatMap_append, List.take_append_drop]
        rw [e, HTK.out, List.length_append, List.length_append]
        omega)
      go_wp2_with (first | ((with_reducible apply (wpl_alloc (dst := some 5))); intro zv wzv _ _ _) | ((with_reducible apply wpl_loadrow); (exact rfl); infer_instance; infer_instance; (first | (with_reducible assumption) | (with_reducible exact H32.size _) | kernel_rfl)) | ((with_reducible apply wpl_loadcellN); (exact rfl); infer_instance; (exact rfl)) | ((with_reducible apply wpl_storerow); (exact rfl); (exact rfl); infer_instance; infer_instance; (first | (with_reducible assumption) | (with_reducible exact H32.size _) | kernel_rfl); (first | (with_reducible assumption) | (with_reducible exact H32.size _) | kernel_rfl); (first | (with_reducible exact u8s_one _) | (with_reducible assumption) | kernel_rfl); intro ws _ _) | ((with_reducible apply wpl_indexH); (exact rfl); (exact rfl); infer_instance; infer_instance; (first | (with_reducible assumption) | omega); (first | (with_reducible assumption) | omega); (first | (with_reducible assumption) | omega)) | ((with_reducible apply (wpl_loadhash (t := 26))); (exact rfl); infer_instance; infer_instance; (first | (with_reducible assumption) | omega)))
      refine (HLAY.out (gt l k) hmem _ ((hC.mono (fun x _ h h' => hU x h' h)).trans (stepN (w0 := wr)).chg (fun _ _ h => h.elim))).mono ?_
      rintro e w5 ⟨f, caps, T, rfl, hs5, hL5, hT5⟩
      have n5 : Nw wr w5 := inferInstance
      have hsz := n5.out.size
      obtain ⟨f9, caps9, he9, hent, hrun⟩ := hL5.run
      injection he9 with e1 _ e2
      injection e1 with e1
      subst e1 e2
      have hTT : ∀ x, Wf g A1 x → ¬ T x := by
        intro x hx hTx
        have hxl := HW.out.old x hx
        rcases hT5 x hTx with h | h
        · have := Nat.le_trans (stepN (w0 := wr)).chg.size h
          omega
        · rcases hx with rfl | ⟨ad, e, rfl⟩
          · exact hU _ h (.inl rfl)
          · rcases HM.out with rfl | ⟨ad', e', h'⟩
            · exact hU _ h (.inr ⟨ad, e, rfl⟩)
            · rw [e] at e'
              injection e' with e'
              subst e'
              have := hUl _ h
              omega
      have HRUN := Lib.hid (hrun w5 g A1 (xs ++ (l.take k).flatMap ys) (Chg.refl _ _) (HW.out.chg n5.out (fun _ _ h => h)) hTT (by
        have h1 := HLE.out
        have h2 := HX.out
        rw [List.length_append]
        omega))
      clear hrun hL5 hT5
      go_wp2_with fail
      refine HRUN.out.mono ?_
      rintro e w6 ⟨rfl, A6, hW6, hC6, hM6⟩
      have h7 := wf_trans (hC.trans n5.out (fun _ _ h => h.elim)) HM.out hC6 hM6
      have HW6 := Lib.hid hW6
      clear hW6 hC6 hM6
      go_wp2_with fail
      refine ⟨⟨k + 1, A6, by omega, by go_num, ?_, h7.1, h7.2⟩, by simp [intOf]; omega⟩
      rw [HTK.out, ← List.append_assoc]
      exact HW6.out
    · have hltI : ¬ (k : Int) < n := by omega
      have hfin : l.take k = l := List.take_of_length_le (by have := HL.out; omega)
      rw [hfin] at HW
      go_wp2_with fail
      go_end0
      exact ⟨rfl, A1, HW.out, hC, HM.out⟩
set_option maxRecDepth 100000 in
set_option maxHeartbeats 1600000 in
theorem eachH_calls {w : World} {n c : Nat} {B : Option Addr} {l : List H32} (ys : H32 → List UInt8) (U : Nat → Prop) (hr : Rd w B (cellsOf l)) (hl : l.length = n) (hm : n ≤ 1000000000) (hUl : ∀ x, U x → x < w.heap.size)
    (hlay : ∀ x ∈ l, ∀ w1, Chg (fun x => ¬ U x) w w1 → Calls Tryz.prog 157 #[.agg (u8s x.l)] w1 (FldPost w1 (ys x) U)) :
    Calls Tryz.prog 181 #[.slice B n c, .func (.func 157) #[] #[]] w (FldPost w (l.flatMap ys) (fun x => (cellsOf l ≠ [] ∧ rowOf B x) ∨ U x)) := by
  have HLAY := Lib.hid hlay
  clear hlay
  unfold FldPost
  go_enter Tryz.func181, Tryz.ntmps181
  go_wp2_with (first | ((with_reducible apply (wpl_box_slice (dst := some 2))); (exact rfl); intro bl wbl _ _ _) | ((with_reducible apply (wpl_box (dst := some 3) (cs := #[.func (.func 157) #[] #[]]))); (exact rfl); (exact rfl); intro bv wbv _ _ _))
  go_ret
  have h1 : HB wbv bl 31 #[.slice B n c] := inferInstance
  have h2 : HB wbv bv 220 #[.func (.func 157) #[] #[]] := inferInstance
  have hst : Step nowhere w wbv := stepN
  have hbl : w.heap.size ≤ bl := Nat.le_of_eq (inferInstance : Born w bl).eq.symm
  have hbv : w.heap.size ≤ bv := by
    have e1 := (inferInstance : Born wbl bv).eq
    have e2 := (inferInstance : SzLe w wbl).out
    omega
  have hr2 := hr.later hst.chg
  refine ⟨_, _, fun x => x = bl ∨ x = bv ∨ (cellsOf l ≠ [] ∧ rowOf B x) ∨ U x, rfl, hst, ⟨fun x hx => ?_, _, _, rfl, run_enter Tryz.func182 (by kernel_rfl) rfl, fun w1 g A xs hc hw hT hlen => ?_⟩, fun x hx => ?_⟩
  · rcases hx with rfl | rfl | ⟨hne, ad, e, hk⟩ | h
    · exact h1.out.lt
    · exact h2.out.lt
    · rw [← hk]
      exact rd_lt hr2 hne e
    · exact Nat.lt_of_lt_of_le (hUl x h) hst.chg.size
  · have k1 : HB w1 bl 31 #[.slice B n c] := ⟨h1.out.chg hc (fun hk => hk (.inl rfl))⟩
    have k2 : HB w1 bv 220 #[.func (.func 157) #[] #[]] := ⟨h2.out.chg hc (fun hk => hk (.inr (.inl rfl)))⟩
    exact each1H_calls (zl := bl) (zf := bv) rfl ys U hw (hr2.chg hc (fun hne ad e hk => hk (.inr (.inr (.inl ⟨hne, ad, e, rfl⟩))))) hl hm
      (fun x hx h => hT x h (.inr (.inr (.inr hx)))) (fun x hx => Nat.lt_of_lt_of_le (Nat.lt_of_lt_of_le (hUl x hx) hst.chg.size) hc.size) (fun h => hT _ h (.inl rfl)) (fun h => hT _ h (.inr (.inl rfl))) (fun hne ad e hk => hT _ hk (.inr (.inr (.inl ⟨hne, ad, e, rfl⟩))))
      (fun x hx w2 h => HLAY.out x hx w2 (((hst.chg.mono (T := fun x => ¬ U x) (fun _ _ h => h.elim)).trans (hc.mono (fun x _ h h' => h (.inr (.inr (.inr h'))))) (fun _ _ h => h)).trans h (fun _ _ h => h))) (by omega)
  · rcases hx with rfl | rfl | h | h
    · exact .inl hbl
    · exact .inl hbv
    · exact .inr (.inl h)
    · exact .inr (.inr h)
set_option maxRecDepth 100000 in
set_option maxHeartbeats 1600000 in
theorem listH_calls {w : World} {n c : Nat} {B : Option Addr} {l : List H32} (ys : H32 → List UInt8) (U : Nat → Prop) (hr : Rd w B (cellsOf l)) (hl : l.length = n) (hm : n ≤ 1000000000) (hUl : ∀ x, U x → x < w.heap.size)
    (hlay : ∀ x ∈ l, ∀ w1, Chg (fun x => ¬ U x) w w1 → Calls Tryz.prog 157 #[.agg (u8s x.l)] w1 (FldPost w1 (ys x) U)) :
    Calls Tryz.prog 177 #[.slice B n c, .func (.func 157) #[] #[]] w (FldPost w (encAll [(n : Int)] ++ l.flatMap ys) (fun x => (cellsOf l ≠ [] ∧ rowOf B x) ∨ U x)) := by
  have kb0 := run_int1 (n : Int)
  have HLAY := Lib.hid hlay
  have HL := Lib.hid hl
  clear hlay hl
  unfold FldPost
  go_enter Tryz.func177, Tryz.ntmps177
  go_wp2_with (first | ((with_reducible apply (stop_dst (dst := some 7))); (try simp only [Act.put, sA, sB, sC]); ((with_reducible apply (wpl_bslice (dst := some 7))); (exact kb0 _); intro zb wb _ _ _)))
  refine (numsC (z := zb) (vs := [(n : Int)]) rfl rfl (show 9 * 1 ≤ 1000000000 by decide)).mono ?_
  rintro e w5 ⟨f5, caps5, T5, rfl, _, hL5, hT5⟩
  have hzb : w.heap.size ≤ zb := (NewA.monoS (w0 := w) (NewA.of_born (z := zb) 0)).out ⟨zb, 0, none⟩ rfl
  go_wp2_with fail
  refine (eachH_calls (l := l) ys U (hr.later (stepN (w0 := w)).chg) HL.out hm (fun x h => Nat.lt_of_lt_of_le (hUl x h) (stepN (w0 := w)).chg.size) (fun x hx w1 h => HLAY.out x hx w1 (((stepN (w0 := w)).chg.mono (fun _ _ h => h.elim)).trans h (fun _ _ h => h)))).mono ?_
  rintro e w6 ⟨f6, caps6, T6, rfl, _, hL6, hT6⟩
  have kb2 := run_fld2 f5 f6 caps5 caps6
  go_wp2_with (first | ((with_reducible apply (stop_dst (dst := some 12))); (try simp only [Act.put, sA, sB, sC]); ((with_reducible apply (wpl_bslice (dst := some 12))); (exact kb2 _); intro zc wb _ _ _)))
  refine (fields2 (z := zc) (hL5.later (stepN (w0 := w5)).chg (fun _ _ h => h)) (hL6.later (stepN (w0 := w6)).chg (fun _ _ h => h))).mono ?_
  rintro e w7 ⟨f7, caps7, T7, rfl, _, hL7, hT7⟩
  have hzc : w.heap.size ≤ zc := (NewA.monoS (w0 := w) (NewA.of_born (z := zc) 0)).out ⟨zc, 0, none⟩ rfl
  go_wp2_with fail
  go_ret
  refine ⟨f7, caps7, T7, rfl, stepN, hL7, fun x hx => ?_⟩
  rcases hT7 x hx with h | rfl | h | h
  · exact .inl (Nat.le_trans (stepN (w0 := w)).chg.size h)
  · exact .inl hzc
  · rcases hT5 x h with h | rfl
    · exact .inl (Nat.le_trans (stepN (w0 := w)).chg.size h)
    · exact .inl hzb
  · rcases hT6 x h with h | h
    · exact .inl (Nat.le_trans (stepN (w0 := w)).chg.size h)
    · exact .inr h
set_option maxRecDepth 100000 in
set_option maxHeartbeats 1600000 in
theorem layKeys_calls (k : KR) {w : World} (hk : KIn w k) :
    Calls Tryz.prog 159 #[.agg #[.slice k.A k.n k.c, .int .i64 k.need]] w (FldPost w (keyB k.l k.need) (inRow k.A k.l)) := by
  have HK := Lib.hid hk
  have HN : Hid (k.n ≤ 1000000000) := Lib.hid (Nat.le_trans hk.le (by decide))
  have HKB : Hid (keyB k.l k.need = encAll [(k.n : Int)] ++ k.l.flatMap (·.l) ++ encAll [k.need]) := Lib.hid (by rw [keyB, hk.len]; rfl)
  have kb0 := run_int1 k.need
  clear hk
  unfold FldPost
  go_enter Tryz.func159, Tryz.ntmps159
  go_wp2_with (first | ((with_reducible apply (wpl_box_agg (dst := some 1))); (exact rfl); intro zt wzt _ _ _))
  have hwz := (stepN (w0 := w) (w := wzt)).chg.size
  have HKZ : Hid (KIn wzt k) := Lib.hid (KIn.nw HK.out)
  refine wp_region_N (nowhere) (by kernel_rfl) (fun wd _ _ => ?_)
  refine' takeH (i := 0) (v := _) rfl (by kernel_rfl) (by kernel_rfl) (by kernel_rfl) (fun _ _ _ h => h) (yields_of (by rfl) (fun w' _ => ?_)) inferInstance ?_
  rotate_left
  · (go_simp; try with_reducible rfl)
  try simp only [Act.put, sA]; try simp only [sB, sC]
  refine' takeH (i := 1) (v := _) rfl (by kernel_rfl) (by kernel_rfl) (by kernel_rfl) (fun _ _ _ h => h) (yields_of (by rfl) (fun w' _ => ?_)) inferInstance ?_
  rotate_left
  · ((with_reducible apply ev_loadcellN); (exact rfl); infer_instance; infer_instance; (exact rfl))
  try simp only [Act.put, sA]; try simp only [sB, sC]
  refine' takeH (i := 3) (v := _) rfl (by kernel_rfl) (by kernel_rfl) (by kernel_rfl) (fun _ _ _ h => h) (yields_of (by rfl) (fun w' _ => ?_)) inferInstance ?_
  rotate_left
  · (go_simp; try with_reducible rfl)
  try simp only [Act.put, sA]; try simp only [sB, sC]
  refine' takeH (i := 4) (v := _) rfl (by kernel_rfl) (by kernel_rfl) (by kernel_rfl) (fun _ _ _ h => h) (yields_of (by rfl) (fun w' _ => ?_)) inferInstance ?_
  rotate_left
  · ((with_reducible apply ev_loadcellN); (exact rfl); infer_instance; infer_instance; (exact rfl))
  try simp only [Act.put, sA]; try simp only [sB, sC]
  refine wpAnyH_ready (rs := [2, 5]) (by kernel_rfl) (by simp) (AllReadyH.cons rfl (fun K_ hK_ => ?_) (AllReadyH.cons rfl (fun K_ hK_ => ?_) AllReadyH.nil))
  focus
    go_simp
    refine (listH_calls (l := k.l) (fun x => x.l) nowhere (HKZ.out.rd.later (stepN (w0 := wzt)).chg) HKZ.out.len HN.out (fun _ h => h.elim) (fun x _ w1 _ => (fhash_calls x w1).mono (fun e w' ⟨f, caps, T, h1, h2, h3, h4⟩ => ⟨f, caps, T, h1, h2, h3, fun x hx => .inl (h4 x hx)⟩))).mono ?_
    rintro e w5 ⟨f5, caps5, T5, rfl, _, hL5, hT5⟩
    refine hK_.out _ _ inferInstance (fun _ => ?_)
    clear hK_ K_
    try simp only [Act.put, sA]; try simp only [sB, sC]
    refine goH (i := 5) (by kernel_rfl) rfl (fun K_ hK_ => ?_)
    rw [if_pos (by kernel_rfl)]
    refine wpr_of_list ?_
    (first | ((with_reducible apply (stop_dst (dst := some 8))); (try simp only [Act.put, sA, sB, sC]); ((with_reducible apply (wpl_bslice (dst := some 8))); (exact run_int1 _ _); intro zb wb _ _ _)) | ((with_reducible apply (stop_dst (dst := some 10))); (try simp only [Act.put, sA, sB, sC]); ((with_reducible apply (wpl_bslice (dst := some 10))); (exact run_fld2 _ _ _ _ _); intro zc wb _ _ _)))
    refine wpList_nil ?_
    unfold onlyN
    refine hK_.out _ _ inferInstance (fun _ => ?_)
    clear hK_ K_
    try simp only [Act.put, sA]; try simp only [sB, sC]
    refine goH (i := 6) (by kernel_rfl) rfl (fun K_ hK_ => ?_)
    go_simp
    refine (numsC (z := zb) (vs := [k.need]) rfl rfl (show 9 * 1 ≤ 1000000000 by decide)).mono ?_
    rintro e w6 ⟨f6, caps6, T6, rfl, _, hL6, hT6⟩
    have hzb : w.heap.size ≤ zb := (NewA.monoS (w0 := w) (NewA.of_born (z := zb) 0)).out ⟨zb, 0, none⟩ rfl
    refine hK_.out _ _ inferInstance (fun _ => ?_)
    clear hK_ K_
    try simp only [Act.put, sA]; try simp only [sB, sC]
    refine goH (i := 7) (by kernel_rfl) rfl (fun K_ hK_ => ?_)
    rw [if_pos (by kernel_rfl)]
    refine wpr_of_list ?_
    (first | ((with_reducible apply (stop_dst (dst := some 8))); (try simp only [Act.put, sA, sB, sC]); ((with_reducible apply (wpl_bslice (dst := some 8))); (exact run_int1 _ _); intro zb wb _ _ _)) | ((with_reducible apply (stop_dst (dst := some 10))); (try simp only [Act.put, sA, sB, sC]); ((with_reducible apply (wpl_bslice (dst := some 10))); (exact run_fld2 _ _ _ _ _); intro zc wb _ _ _)))
    refine wpList_nil ?_
    unfold onlyN
    refine hK_.out _ _ inferInstance (fun _ => ?_)
    clear hK_ K_
    try simp only [Act.put, sA]; try simp only [sB, sC]
    refine goH (i := 8) (by kernel_rfl) rfl (fun K_ hK_ => ?_)
    go_simp
    refine (fields2 (z := zc) (hL5.later (stepN (w0 := w5)).chg (fun _ _ h => h)) (hL6.later (stepN (w0 := w6)).chg (fun _ _ h => h))).mono ?_
    rintro e w7 ⟨f7, caps7, T7, rfl, _, hL7, hT7⟩
    have hzc : w.heap.size ≤ zc := (NewA.monoS (w0 := w) (NewA.of_born (z := zc) 0)).out ⟨zc, 0, none⟩ rfl
    refine hK_.out _ _ inferInstance (fun _ => ?_)
    clear hK_ K_
    try simp only [Act.put, sA]; try simp only [sB, sC]
    refine' takeH (i := 9) (v := _) rfl (by kernel_rfl) (by kernel_rfl) (by kernel_rfl) (fun _ _ _ h => h) (yields_of (by rfl) (fun w' _ => ?_)) inferInstance ?_
    rotate_left
    · (go_simp; try with_reducible rfl)
    try simp only [Act.put, sA]; try simp only [sB, sC]
    refine wpAnyH_done (by kernel_rfl) ?_ _
  rotate_left 1
  focus
    rw [if_pos (by kernel_rfl)]
    refine wpr_of_list ?_
    (first | ((with_reducible apply (stop_dst (dst := some 8))); (try simp only [Act.put, sA, sB, sC]); ((with_reducible apply (wpl_bslice (dst := some 8))); (exact run_int1 _ _); intro zb wb _ _ _)) | ((with_reducible apply (stop_dst (dst := some 10))); (try simp only [Act.put, sA, sB, sC]); ((with_reducible apply (wpl_bslice (dst := some 10))); (exact run_fld2 _ _ _ _ _); intro zc wb _ _ _)))
    refine wpList_nil ?_
    unfold onlyN
    refine hK_.out _ _ inferInstance (fun _ => ?_)
    clear hK_ K_
    try simp only [Act.put, sA]; try simp only [sB, sC]
    refine goH (i := 2) (by kernel_rfl) rfl (fun K_ hK_ => ?_)
    go_simp
    refine (listH_calls (l := k.l) (fun x => x.l) nowhere (HKZ.out.rd.later (stepN (w0 := wzt)).chg) HKZ.out.len HN.out (fun _ h => h.elim) (fun x _ w1 _ => (fhash_calls x w1).mono (fun e w' ⟨f, caps, T, h1, h2, h3, h4⟩ => ⟨f, caps, T, h1, h2, h3, fun x hx => .inl (h4 x hx)⟩))).mono ?_
    rintro e w5 ⟨f5, caps5, T5, rfl, _, hL5, hT5⟩
    refine hK_.out _ _ inferInstance (fun _ => ?_)
    clear hK_ K_
    try simp only [Act.put, sA]; try simp only [sB, sC]
    refine goH (i := 6) (by kernel_rfl) rfl (fun K_ hK_ => ?_)
    go_simp
    refine (numsC (z := zb) (vs := [k.need]) rfl rfl (show 9 * 1 ≤ 1000000000 by decide)).mono ?_
    rintro e w6 ⟨f6, caps6, T6, rfl, _, hL6, hT6⟩
    have hzb : w.heap.size ≤ zb := (NewA.monoS (w0 := w) (NewA.of_born (z := zb) 0)).out ⟨zb, 0, none⟩ rfl
    refine hK_.out _ _ inferInstance (fun _ => ?_)
    clear hK_ K_
    try simp only [Act.put, sA]; try simp only [sB, sC]
    refine goH (i := 7) (by kernel_rfl) rfl (fun K_ hK_ => ?_)
    rw [if_pos (by kernel_rfl)]
    refine wpr_of_list ?_
    (first | ((with_reducible apply (stop_dst (dst := some 8))); (try simp only [Act.put, sA, sB, sC]); ((with_reducible apply (wpl_bslice (dst := some 8))); (exact run_int1 _ _); intro zb wb _ _ _)) | ((with_reducible apply (stop_dst (dst := some 10))); (try simp only [Act.put, sA, sB, sC]); ((with_reducible apply (wpl_bslice (dst := some 10))); (exact run_fld2 _ _ _ _ _); intro zc wb _ _ _)))
    refine wpList_nil ?_
    unfold onlyN
    refine hK_.out _ _ inferInstance (fun _ => ?_)
    clear hK_ K_
    try simp only [Act.put, sA]; try simp only [sB, sC]
    refine goH (i := 8) (by kernel_rfl) rfl (fun K_ hK_ => ?_)
    go_simp
    refine (fields2 (z := zc) (hL5.later (stepN (w0 := w5)).chg (fun _ _ h => h)) (hL6.later (stepN (w0 := w6)).chg (fun _ _ h => h))).mono ?_
    rintro e w7 ⟨f7, caps7, T7, rfl, _, hL7, hT7⟩
    have hzc : w.heap.size ≤ zc := (NewA.monoS (w0 := w) (NewA.of_born (z := zc) 0)).out ⟨zc, 0, none⟩ rfl
    refine hK_.out _ _ inferInstance (fun _ => ?_)
    clear hK_ K_
    try simp only [Act.put, sA]; try simp only [sB, sC]
    refine' takeH (i := 9) (v := _) rfl (by kernel_rfl) (by kernel_rfl) (by kernel_rfl) (fun _ _ _ h => h) (yields_of (by rfl) (fun w' _ => ?_)) inferInstance ?_
    rotate_left
    · (go_simp; try with_reducible rfl)
    try simp only [Act.put, sA]; try simp only [sB, sC]
    refine wpAnyH_done (by kernel_rfl) ?_ _
  rotate_left 1
  all_goals
    rw [← HKB.out] at hL7
    go_wp2_with fail
    go_ret
    refine ⟨f7, caps7, rfl, stepN, T7, hL7, fun x hx => ?_⟩
    rcases hT7 x hx with h | rfl | h | h
    · exact .inl (Nat.le_trans (stepN (w0 := w)).chg.size h)
    · exact .inl hzc
    · rcases hT5 x h with h | h | h
      · exact .inl (Nat.le_trans (stepN (w0 := w)).chg.size h)
      · exact .inr h
      · exact h.elim
    · rcases hT6 x h with h | rfl
      · exact .inl (Nat.le_trans (stepN (w0 := w)).chg.size h)
      · exact .inl hzb
end Go.Proofs.YtmnapacibpnodaaGreat
end
section
open Go Go.RowKit
namespace Go.Proofs.YtmnapacibpnodaaGreat
instance cellFKeysB : CellT Tryz.prog 104 := ⟨fun _ => by kernel_rfl, fun _ => by kernel_rfl⟩
instance cellFKeys : CellT Tryz.prog 221 := ⟨fun _ => by kernel_rfl, fun _ => by kernel_rfl⟩
instance zeroKeys : ZeroT Tryz.prog 73 #[.slice none 0 0, .int .i64 0] := ⟨.agg #[.slice none 0 0, .int .i64 0], fun _ => by kernel_rfl, rfl⟩
/-- the blocks that keys' rows lie in -/
def usedK (K : List KR) : Nat → Prop := fun x => ∃ k ∈ K, inRow k.A k.l x
def keyOk (k : KR) : Bool := isB k.l k.need
def rootOk (v e : Int) (K : List KR) : Bool := verB v && numB e && K.all keyOk
/-- keys' bytes -/
def keysE (K : List KR) : List UInt8 := K.flatMap fun k => keyB k.l k.need
end Go.Proofs.YtmnapacibpnodaaGreat
end
section
open Go Go.RowKit
namespace Go.Proofs.YtmnapacibpnodaaGreat
theorem isNaN_calls (s : ByteArray) (w : World) : Calls Tryz.prog 58 #[.string s] w fun e w' => e = .returned (.bool false) ∧ w' = w := by
  have h : (!(s.toList == s.toList)) = false := by simp
  have h2 : (s.toList == s.toList) = true := by simp
  go_enter Tryz.func58, Tryz.ntmps58
  go_wp2_with fail
  go_ret
  exact ⟨rfl, rfl⟩
end Go.Proofs.YtmnapacibpnodaaGreat
end
section
open Go Go.RowKit
namespace Go.Proofs.YtmnapacibpnodaaGreat
/-- the blocks that pins lie in -/
def inPins (A : Option Addr) (P : List PinR) : Nat → Prop := fun x => cellsOf P ≠ [] ∧ rowOf A x
end Go.Proofs.YtmnapacibpnodaaGreat
end
section
open Go Go.RowKit
namespace Go.Proofs.YtmnapacibpnodaaGreat
theorem RdrAt.far {S : Nat → Prop} {w w' : World} {g d : Nat} {s : RS} {m : Nat} (h : RdrAt w g d s) (hc : Chg S w w') (hS : ∀ x, S x → m ≤ x) (hg : g < m) (hd : s.b ≠ [] → d < m) : RdrAt w' g d s :=
  h.chg2 hc (fun e => by have := hS _ e; omega) (fun hne e => by have := hS _ e; have := hd hne; omega)
theorem newA_grew {w0 w : World} {A A' : Option Addr} (g : Grew w A A') (h : NewA w0 A) (s : w0.heap.size ≤ w.heap.size) : NewA w0 A' := ⟨fun ad e => by
  rcases g.out with k | k
  · exact h.out ad (by rw [← k]; exact e)
  · rw [k] at e
    injection e with e
    subst e
    exact s⟩
theorem newA_none (w : World) : NewA w none := ⟨fun ad e => by cases e⟩
end Go.Proofs.YtmnapacibpnodaaGreat
end
section
open Go Go.RowKit
namespace Go.Proofs.YtmnapacibpnodaaGreat
end Go.Proofs.YtmnapacibpnodaaGreat
end
section
open Go Go.RowKit
namespace Go.Proofs.YtmnapacibpnodaaGreat
theorem HB.cells {α : Type} [RowC α] {w : World} {z : Nat} {t : TypeId} {l : List α} (h : HB w z t (cellsOf l).toArray) : HR w (some ⟨z, 0, none⟩) (cellsOf l) := ⟨by
  have h1 := h.rdL
  simpa using h1⟩
end Go.Proofs.YtmnapacibpnodaaGreat
end
section
open Go Go.RowKit
namespace Go.Proofs.YtmnapacibpnodaaGreat
theorem flatH_len (l : List H32) : (flatH l).length = 32 * l.length := by
  induction l with
  | nil => rfl
  | cons a l ih =>
    have e : flatH (a :: l) = a.l ++ flatH l := rfl
    rw [e, List.length_append, ih, a.len, List.length_cons]
    omega
theorem keyB_len (l : List H32) (need : Int) : (keyB l need).length ≤ 18 + 32 * l.length := by
  have a1 := encAll_len [(l.length : Int)]
  have a2 := encAll_len [need]
  simp only [keyB, List.length_append, flatH_len, List.length_cons, List.length_nil] at *
  omega
end Go.Proofs.YtmnapacibpnodaaGreat
end
section
open Go Go.RowKit
namespace Go.Proofs.YtmnapacibpnodaaGreat
/-- what is decoded -/
def rtM (b : List UInt8) : Int × Int × List (List H32 × Int) × Int := if rtOk b then (rtV b, rtX b, kK (rtS b) 4, 0) else (0, 0, noK.map KR.m, 2)
def DecRt (b : List UInt8) (w : World) : Ending → World → Prop := fun e w' => Step nowhere w w' ∧ ∃ v x K err, e = .returned (.tuple #[.agg (rtL v x K).toArray, .int .i64 err]) ∧ Hid (K.length = 4 ∧ (v, x, K.map KR.m, err) = rtM b) ∧ Hid (KsIn w w' K)
end Go.Proofs.YtmnapacibpnodaaGreat
end
section
open Go Go.RowKit
namespace Go.Proofs.YtmnapacibpnodaaGreat
/-- what is decoded -/
def snM (b : List UInt8) : Int × Int × List PinR × Int := if snOk b then (snV b, snX b, snP b, 0) else (0, 0, [], 2)
def DecSn (b : List UInt8) (w : World) : Ending → World → Prop := fun e w' => Step nowhere w w' ∧ ∃ v x A n c P err, e = .returned (.tuple #[.agg #[.int .i64 v, .int .i64 x, .slice A n c], .int .i64 err]) ∧ Hid ((v, x, P, err) = snM b ∧ P.length = n ∧ n ≤ c ∧ n ≤ 16) ∧ Hid (Rd w' A (cellsOf P)) ∧ NewA w A
end Go.Proofs.YtmnapacibpnodaaGreat
end
