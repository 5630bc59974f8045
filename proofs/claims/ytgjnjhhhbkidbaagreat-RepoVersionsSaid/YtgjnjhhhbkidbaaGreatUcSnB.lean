/- SnB -/
import Derived.Test.YtgjnjhhhbkidbaaGreatUcSnD
import Derived.Test.YtgjnjhhhbkidbaaGreatUcWuA
import Derived.Test.YtgjnjhhhbkidbaaGreatUcWsB
open Go Go.RowKit
namespace Go.Proofs.YtgjnjhhhbkidbaaGreat
set_option maxRecDepth 100000 in
set_option maxHeartbeats 1600000 in
theorem each1P_calls {w : World} {g zl zf n c : Nat} {A B : Option Addr} {xs : List UInt8} {l : List PinR} {t1 t2 : TypeId} {fx : FuncId} (hf : fx = 130) (ys : PinR → List UInt8) (U : Nat → Prop) (hw : WrAt w g A xs) [h1 : HB w zl t1 #[.slice B n c]] [h2 : HB w zf t2 #[.func (.func fx) #[] #[]]] (hr : Rd w B (cellsOf l)) (hl : l.length = n) (hm : n ≤ 1000000000)
    (hU : ∀ x, U x → ¬ Wf g A x) (hUl : ∀ x, U x → x < w.heap.size) (hzl : ¬ Wf g A zl) (hzf : ¬ Wf g A zf) (hB : Apart (Wf g A) B (cellsOf l)) (hlay : ∀ x ∈ l, ∀ w1, Chg (fun x => ¬ U x) w w1 → Calls Tryz.prog 130 #[.agg (RowC.enc x).toArray] w1 (FldPost w1 (ys x) U)) (hx : xs.length + (l.flatMap ys).length ≤ 1000000000) :
    Calls Tryz.prog 195 #[.pointer (some ⟨g, 0, none⟩), .pointer (some ⟨zl, 0, none⟩), .pointer (some ⟨zf, 0, none⟩)] w fun e w' => e = .returned (.tuple #[]) ∧ ∃ A', WrAt w' g A' (xs ++ l.flatMap ys) ∧ Chg (Wf g A) w w' ∧ Moved w A A' := by
 subst hf
 have HL := Lib.hid hl
 have HLAY := Lib.hid hlay
 have HX := Lib.hid hx
 clear hlay hx
 go_enter Tryz.func195, Tryz.ntmps195
 go_wp2_with (first | ((with_reducible apply wpl_loadcellN); exact rfl; infer_instance; exact rfl))
 go_loopw [8] (fun iv wr => ∃ (k : Nat) (A1 : Option Addr), k ≤ n ∧ iv = .int .i64 (k : Int) ∧ WrAt wr g A1 (xs ++ (l.take k).flatMap ys) ∧ Chg (Wf g A) w wr ∧ Moved w A A1) (fun iv _ => n - (intOf iv).toNat)
 case atStart => exact ⟨0, A, Nat.zero_le _, rfl, by simpa using hw, Chg.refl _ _, Moved.refl _ _⟩
 case round =>
  obtain ⟨k, A1, hk, rfl, hW, hC, hM⟩ := hrel
  have HW := Lib.hid hW
  have HM := Lib.hid hM
  clear hW hM
  by_cases hlt : k < n
  · have hltI : (k : Int) < n := by omega
    have hkl : k < l.length := by omega
    have hr1 : HR wr B (cellsOf l) := ⟨hr.chg hC hB⟩
    have k2 : HB wr zf t2 #[.func (.func 130) #[] #[]] := ⟨h2.out.chg hC hzf⟩
    have hmem : gt l k ∈ l := gt_mem l k hkl
    have HTK : Hid ((l.take (k + 1)).flatMap ys = (l.take k).flatMap ys ++ ys (gt l k)) := Lib.hid (by
     rw [← List.take_append_getElem hkl, List.flatMap_append]
     simp [gt, List.getD_eq_getElem?_getD, hkl])
    have HLE : Hid (((l.take k).flatMap ys).length + (ys (gt l k)).length ≤ (l.flatMap ys).length) := Lib.hid (by
     have e : l.flatMap ys = (l.take (k + 1)).flatMap ys ++ (l.drop (k + 1)).flatMap ys := by rw [← List.flatMap_append, List.take_append_drop]
     rw [e, HTK.out, List.length_append, List.length_append]
     omega)
    go_wp2_with (first | ((with_reducible apply (wpl_alloc (dst := some 5))); intro zv wzv _ _ _) | ((with_reducible apply wpl_loadrow); exact rfl; infer_instance; infer_instance; (first | (with_reducible assumption) | (with_reducible exact H32.size _) | (with_reducible exact enc_sz _ rfl) | kernel_rfl)) | ((with_reducible apply wpl_loadcellN); exact rfl; infer_instance; exact rfl) | ((with_reducible apply wpl_storerow); exact rfl; exact rfl; infer_instance; infer_instance; (first | (with_reducible assumption) | (with_reducible exact H32.size _) | (with_reducible exact enc_sz _ rfl) | kernel_rfl); (first | (with_reducible assumption) | (with_reducible exact H32.size _) | (with_reducible exact enc_sz _ rfl) | kernel_rfl); (first | (with_reducible exact u8s_one _) | (with_reducible assumption) | (with_reducible exact enc_one _) | kernel_rfl); intro ws _ _) | ((with_reducible apply (wpl_indexE (α := PinR) (t := 57))); exact rfl; exact rfl; infer_instance; infer_instance; (first | (with_reducible assumption) | omega | (focus (simp; done)) | (focus (simp; omega; done)) | decide); exact rfl; (decide); (first | (with_reducible assumption) | omega | (focus (simp; done)) | (focus (simp; omega; done)) | decide)) | ((with_reducible apply (wpl_loadE (α := PinR) (t := 68))); infer_instance; exact rfl; infer_instance; exact rfl; (decide); (first | (with_reducible assumption) | omega | (focus (simp; done)) | (focus (simp; omega; done)) | decide)))
    refine (HLAY.out (gt l k) hmem _ ((hC.mono (fun x _ h h' => hU x h' h)).trans (stepN (w0 := wr)).chg (fun _ _ h => h.elim))).mono ?_
    rintro e w5 ⟨f, caps, T, rfl, hs5, hL5, hT5⟩
    have n5 : Nw wr w5 := inferInstance
    have hsz := n5.out.size
    obtain ⟨f9, caps9, he9, hent, hrun⟩ := hL5.run
    injection he9 with e1 _ e2
    injection e1 with e1
    subst e1 e2
    have hTT : ∀ x, Wf g A1 x → ¬ T x := by
     intro x hx hTx
     have hxl := HW.out.old x hx
     rcases hT5 x hTx with h | h
     · have := Nat.le_trans (stepN (w0 := wr)).chg.size h
       omega
     · rcases hx with rfl | ⟨ad, e, rfl⟩
       · exact hU _ h (.inl rfl)
       · rcases HM.out with rfl | ⟨ad', e', h'⟩
         · exact hU _ h (.inr ⟨ad, e, rfl⟩)
         · rw [e] at e'
           injection e' with e'
           subst e'
           have := hUl _ h
           omega
    have HRUN := Lib.hid (hrun w5 g A1 (xs ++ (l.take k).flatMap ys) (Chg.refl _ _) (HW.out.chg n5.out (fun _ _ h => h)) hTT (by
     have h1 := HLE.out
     have h2 := HX.out
     rw [List.length_append]
     omega))
    clear hrun hL5 hT5
    go_wp2_with fail
    refine HRUN.out.mono ?_
    rintro e w6 ⟨rfl, A6, hW6, hC6, hM6⟩
    have h7 := wf_trans (hC.trans n5.out (fun _ _ h => h.elim)) HM.out hC6 hM6
    have HW6 := Lib.hid hW6
    clear hW6 hC6 hM6
    go_wp2_with fail
    refine ⟨⟨k + 1, A6, by omega, by go_num, ?_, h7.1, h7.2⟩, by simp [intOf]; omega⟩
    rw [HTK.out, ← List.append_assoc]
    exact HW6.out
  · have hltI : ¬ (k : Int) < n := by omega
    have hfin : l.take k = l := List.take_of_length_le (by have := HL.out; omega)
    rw [hfin] at HW
    go_wp2_with fail
    go_end0
    exact ⟨rfl, A1, HW.out, hC, HM.out⟩
set_option maxRecDepth 100000 in
set_option maxHeartbeats 1600000 in
theorem eachP_calls {w : World} {n c : Nat} {B : Option Addr} {l : List PinR} (ys : PinR → List UInt8) (U : Nat → Prop) (hr : Rd w B (cellsOf l)) (hl : l.length = n) (hm : n ≤ 1000000000) (hUl : ∀ x, U x → x < w.heap.size)
    (hlay : ∀ x ∈ l, ∀ w1, Chg (fun x => ¬ U x) w w1 → Calls Tryz.prog 130 #[.agg (RowC.enc x).toArray] w1 (FldPost w1 (ys x) U)) :
    Calls Tryz.prog 173 #[.slice B n c, .func (.func 130) #[] #[]] w (FldPost w (l.flatMap ys) (fun x => (cellsOf l ≠ [] ∧ rowOf B x) ∨ U x)) := by
 have HLAY := Lib.hid hlay
 clear hlay
 unfold FldPost
 go_enter Tryz.func173, Tryz.ntmps173
 go_wp2_with (first | ((with_reducible apply (wpl_box_slice (dst := some 2))); exact rfl; intro bl wbl _ _ _) | ((with_reducible apply (wpl_box (dst := some 3) (cs := #[.func (.func 130) #[] #[]]))); exact rfl; exact rfl; intro bv wbv _ _ _))
 go_ret
 have h1 : HB wbv bl 57 #[.slice B n c] := inferInstance
 have h2 : HB wbv bv 209 #[.func (.func 130) #[] #[]] := inferInstance
 have hst : Step nowhere w wbv := stepN
 have hbl : w.heap.size ≤ bl := Nat.le_of_eq (inferInstance : Born w bl).eq.symm
 have hbv : w.heap.size ≤ bv := by
  have e1 := (inferInstance : Born wbl bv).eq
  have e2 := (inferInstance : SzLe w wbl).out
  omega
 have hr2 := hr.later hst.chg
 refine ⟨_, _, fun x => x = bl ∨ x = bv ∨ (cellsOf l ≠ [] ∧ rowOf B x) ∨ U x, rfl, hst, ⟨fun x hx => ?_, _, _, rfl, run_enter Tryz.func195 (by kernel_rfl) rfl, fun w1 g A xs hc hw hT hlen => ?_⟩, fun x hx => ?_⟩
 · rcases hx with rfl | rfl | ⟨hne, ad, e, hk⟩ | h
   · exact h1.out.lt
   · exact h2.out.lt
   · rw [← hk]
     exact rd_lt hr2 hne e
   · exact Nat.lt_of_lt_of_le (hUl x h) hst.chg.size
 · have k1 : HB w1 bl 57 #[.slice B n c] := ⟨h1.out.chg hc (fun hk => hk (.inl rfl))⟩
   have k2 : HB w1 bv 209 #[.func (.func 130) #[] #[]] := ⟨h2.out.chg hc (fun hk => hk (.inr (.inl rfl)))⟩
   exact each1P_calls (zl := bl) (zf := bv) rfl ys U hw (hr2.chg hc (fun hne ad e hk => hk (.inr (.inr (.inl ⟨hne, ad, e, rfl⟩))))) hl hm
    (fun x hx h => hT x h (.inr (.inr (.inr hx)))) (fun x hx => Nat.lt_of_lt_of_le (Nat.lt_of_lt_of_le (hUl x hx) hst.chg.size) hc.size) (fun h => hT _ h (.inl rfl)) (fun h => hT _ h (.inr (.inl rfl))) (fun hne ad e hk => hT _ hk (.inr (.inr (.inl ⟨hne, ad, e, rfl⟩))))
    (fun x hx w2 h => HLAY.out x hx w2 (((hst.chg.mono (T := fun x => ¬ U x) (fun _ _ h => h.elim)).trans (hc.mono (fun x _ h h' => h (.inr (.inr (.inr h'))))) (fun _ _ h => h)).trans h (fun _ _ h => h))) (by omega)
 · rcases hx with rfl | rfl | h | h
   · exact .inl hbl
   · exact .inl hbv
   · exact .inr (.inl h)
   · exact .inr (.inr h)
set_option maxRecDepth 100000 in
set_option maxHeartbeats 1600000 in
theorem listP_calls {w : World} {n c : Nat} {B : Option Addr} {l : List PinR} (ys : PinR → List UInt8) (U : Nat → Prop) (hr : Rd w B (cellsOf l)) (hl : l.length = n) (hm : n ≤ 1000000000) (hUl : ∀ x, U x → x < w.heap.size)
    (hlay : ∀ x ∈ l, ∀ w1, Chg (fun x => ¬ U x) w w1 → Calls Tryz.prog 130 #[.agg (RowC.enc x).toArray] w1 (FldPost w1 (ys x) U)) :
    Calls Tryz.prog 129 #[.slice B n c, .func (.func 130) #[] #[]] w (FldPost w (encAll [(n : Int)] ++ l.flatMap ys) (fun x => (cellsOf l ≠ [] ∧ rowOf B x) ∨ U x)) := by
 have kb0 := run_int1 (n : Int)
 have HLAY := Lib.hid hlay
 have HL := Lib.hid hl
 clear hlay hl
 unfold FldPost
 go_enter Tryz.func129, Tryz.ntmps129
 go_wp2_with (first | ((with_reducible apply (stop_dst (dst := some 7))); (try simp only [Act.put, sA, sB, sC]); ((with_reducible apply (wpl_bslice (dst := some 7))); exact kb0 _; intro zb wb _ _ _)))
 refine (numsC (z := zb) (vs := [(n : Int)]) rfl rfl (show 9 * 1 ≤ 1000000000 by decide)).mono ?_
 rintro e w5 ⟨f5, caps5, T5, rfl, _, hL5, hT5⟩
 have hzb : w.heap.size ≤ zb := (NewA.monoS (w0 := w) (NewA.of_born (z := zb) 0)).out ⟨zb, 0, none⟩ rfl
 go_wp2_with fail
 refine (eachP_calls (l := l) ys U (hr.later (stepN (w0 := w)).chg) HL.out hm (fun x h => Nat.lt_of_lt_of_le (hUl x h) (stepN (w0 := w)).chg.size) (fun x hx w1 h => HLAY.out x hx w1 (((stepN (w0 := w)).chg.mono (fun _ _ h => h.elim)).trans h (fun _ _ h => h)))).mono ?_
 rintro e w6 ⟨f6, caps6, T6, rfl, _, hL6, hT6⟩
 have kb2 := run_fld2 f5 f6 caps5 caps6
 go_wp2_with (first | ((with_reducible apply (stop_dst (dst := some 12))); (try simp only [Act.put, sA, sB, sC]); ((with_reducible apply (wpl_bslice (dst := some 12))); exact kb2 _; intro zc wb _ _ _)))
 refine (fields2 (z := zc) (hL5.later (stepN (w0 := w5)).chg (fun _ _ h => h)) (hL6.later (stepN (w0 := w6)).chg (fun _ _ h => h))).mono ?_
 rintro e w7 ⟨f7, caps7, T7, rfl, _, hL7, hT7⟩
 have hzc : w.heap.size ≤ zc := (NewA.monoS (w0 := w) (NewA.of_born (z := zc) 0)).out ⟨zc, 0, none⟩ rfl
 go_wp2_with fail
 go_ret
 refine ⟨f7, caps7, T7, rfl, stepN, hL7, fun x hx => ?_⟩
 rcases hT7 x hx with h | rfl | h | h
 · exact .inl (Nat.le_trans (stepN (w0 := w)).chg.size h)
 · exact .inl hzc
 · rcases hT5 x h with h | rfl
   · exact .inl (Nat.le_trans (stepN (w0 := w)).chg.size h)
   · exact .inl hzb
 · rcases hT6 x h with h | h
   · exact .inl (Nat.le_trans (stepN (w0 := w)).chg.size h)
   · exact .inr h
set_option maxRecDepth 100000 in
set_option maxHeartbeats 1600000 in
theorem layPin_calls (k : PinR) (w : World) :
    Calls Tryz.prog 130 #[.agg (RowC.enc k).toArray] w (FldPost w (pinE k) nowhere) := by
 have hsz : (RowC.enc k).toArray.size = 2 := rfl
 unfold FldPost
 go_enter Tryz.func130, Tryz.ntmps130
 go_wp2_with (first | ((with_reducible apply (wpl_box_agg (dst := some 1))); exact rfl; intro zt wzt _ _ _))
 have hwz := (stepN (w0 := w) (w := wzt)).chg.size
 refine wp_region_N (nowhere) (by kernel_rfl) (fun wd _ _ => ?_)
 refine' tk 0 _ rfl (by kernel_rfl) (by kernel_rfl) (by kernel_rfl) (fun _ _ _ h => h) (yo (by rfl) fun w' _ => ?_) inferInstance ?_
 rotate_left
 · (go_simp; try with_reducible rfl)
 try simp only [Act.put, sA, sB, sC]
 refine' tk 1 _ rfl (by kernel_rfl) (by kernel_rfl) (by kernel_rfl) (fun _ _ _ h => h) (yo (by rfl) fun w' _ => ?_) inferInstance ?_
 rotate_left
 · ((apply ev_loadcellN); exact rfl; infer_instance; infer_instance; exact rfl)
 try simp only [Act.put, sA, sB, sC]
 refine' tk 3 _ rfl (by kernel_rfl) (by kernel_rfl) (by kernel_rfl) (fun _ _ _ h => h) (yo (by rfl) fun w' _ => ?_) inferInstance ?_
 rotate_left
 · (go_simp; try with_reducible rfl)
 try simp only [Act.put, sA, sB, sC]
 refine' tk 4 _ rfl (by kernel_rfl) (by kernel_rfl) (by kernel_rfl) (fun _ _ _ h => h) (yo (by rfl) fun w' _ => ?_) inferInstance ?_
 rotate_left
 · ((apply ev_loadcellN); exact rfl; infer_instance; infer_instance; exact rfl)
 try simp only [Act.put, sA, sB, sC]
 refine wpAnyH_ready (rs := [2, 5]) (by kernel_rfl) (by simp) (AllReadyH.cons rfl (fun K_ hK_ => ?_) (AllReadyH.cons rfl (fun K_ hK_ => ?_) AllReadyH.nil))
 focus
  go_simp
  refine (text_calls (strL k.l) k.l rfl _).mono ?_
  rintro e w5 ⟨f5, caps5, T5, rfl, _, hL5, hT5⟩
  refine hK_.out _ _ inferInstance (fun _ => ?_)
  clear hK_ K_
  try simp only [Act.put, sA, sB, sC]
  refine goH (i := 5) (by kernel_rfl) rfl (fun K_ hK_ => ?_)
  rw [if_pos (by kernel_rfl)]
  refine wpr_of_list ?_
  ((with_reducible apply (stop_dst (dst := some 8))); (try simp only [Act.put, sA, sB, sC]); ((with_reducible apply (wpl_bslice (dst := some 8))); exact run_int1 _ _; intro zb wb _ _ _))
  refine wpList_nil ?_
  unfold onlyN
  refine hK_.out _ _ inferInstance (fun _ => ?_)
  clear hK_ K_
  try simp only [Act.put, sA, sB, sC]
  refine goH (i := 6) (by kernel_rfl) rfl (fun K_ hK_ => ?_)
  go_simp
  refine (numsC (z := zb) (vs := [k.v]) rfl rfl (show 9 * 1 ≤ 1000000000 by decide)).mono ?_
  rintro e w6 ⟨f6, caps6, T6, rfl, _, hL6, hT6⟩
  have hzb : w.heap.size ≤ zb := (NewA.monoS (w0 := w) (NewA.of_born (z := zb) 0)).out ⟨zb, 0, none⟩ rfl
  refine hK_.out _ _ inferInstance (fun _ => ?_)
  clear hK_ K_
  try simp only [Act.put, sA, sB, sC]
  refine goH (i := 7) (by kernel_rfl) rfl (fun K_ hK_ => ?_)
  rw [if_pos (by kernel_rfl)]
  refine wpr_of_list ?_
  ((with_reducible apply (stop_dst (dst := some 10))); (try simp only [Act.put, sA, sB, sC]); ((with_reducible apply (wpl_bslice (dst := some 10))); exact run_fld2 _ _ _ _ _; intro zc wb _ _ _))
  refine wpList_nil ?_
  unfold onlyN
  refine hK_.out _ _ inferInstance (fun _ => ?_)
  clear hK_ K_
  try simp only [Act.put, sA, sB, sC]
  refine goH (i := 8) (by kernel_rfl) rfl (fun K_ hK_ => ?_)
  go_simp
  refine (fields2 (z := zc) (hL5.later (stepN (w0 := w5)).chg (fun _ _ h => h)) (hL6.later (stepN (w0 := w6)).chg (fun _ _ h => h))).mono ?_
  rintro e w7 ⟨f7, caps7, T7, rfl, _, hL7, hT7⟩
  have hzc : w.heap.size ≤ zc := (NewA.monoS (w0 := w) (NewA.of_born (z := zc) 0)).out ⟨zc, 0, none⟩ rfl
  refine hK_.out _ _ inferInstance (fun _ => ?_)
  clear hK_ K_
  try simp only [Act.put, sA, sB, sC]
  refine' tk 9 _ rfl (by kernel_rfl) (by kernel_rfl) (by kernel_rfl) (fun _ _ _ h => h) (yo (by rfl) fun w' _ => ?_) inferInstance ?_
  rotate_left
  · (go_simp; try with_reducible rfl)
  try simp only [Act.put, sA, sB, sC]
  refine wpAnyH_done (by kernel_rfl) ?_ _
 rotate_left 1
 focus
  rw [if_pos (by kernel_rfl)]
  refine wpr_of_list ?_
  ((with_reducible apply (stop_dst (dst := some 8))); (try simp only [Act.put, sA, sB, sC]); ((with_reducible apply (wpl_bslice (dst := some 8))); exact run_int1 _ _; intro zb wb _ _ _))
  refine wpList_nil ?_
  unfold onlyN
  refine hK_.out _ _ inferInstance (fun _ => ?_)
  clear hK_ K_
  try simp only [Act.put, sA, sB, sC]
  refine goH (i := 2) (by kernel_rfl) rfl (fun K_ hK_ => ?_)
  go_simp
  refine (text_calls (strL k.l) k.l rfl _).mono ?_
  rintro e w5 ⟨f5, caps5, T5, rfl, _, hL5, hT5⟩
  refine hK_.out _ _ inferInstance (fun _ => ?_)
  clear hK_ K_
  try simp only [Act.put, sA, sB, sC]
  refine goH (i := 6) (by kernel_rfl) rfl (fun K_ hK_ => ?_)
  go_simp
  refine (numsC (z := zb) (vs := [k.v]) rfl rfl (show 9 * 1 ≤ 1000000000 by decide)).mono ?_
  rintro e w6 ⟨f6, caps6, T6, rfl, _, hL6, hT6⟩
  have hzb : w.heap.size ≤ zb := (NewA.monoS (w0 := w) (NewA.of_born (z := zb) 0)).out ⟨zb, 0, none⟩ rfl
  refine hK_.out _ _ inferInstance (fun _ => ?_)
  clear hK_ K_
  try simp only [Act.put, sA, sB, sC]
  refine goH (i := 7) (by kernel_rfl) rfl (fun K_ hK_ => ?_)
  rw [if_pos (by kernel_rfl)]
  refine wpr_of_list ?_
  ((with_reducible apply (stop_dst (dst := some 10))); (try simp only [Act.put, sA, sB, sC]); ((with_reducible apply (wpl_bslice (dst := some 10))); exact run_fld2 _ _ _ _ _; intro zc wb _ _ _))
  refine wpList_nil ?_
  unfold onlyN
  refine hK_.out _ _ inferInstance (fun _ => ?_)
  clear hK_ K_
  try simp only [Act.put, sA, sB, sC]
  refine goH (i := 8) (by kernel_rfl) rfl (fun K_ hK_ => ?_)
  go_simp
  refine (fields2 (z := zc) (hL5.later (stepN (w0 := w5)).chg (fun _ _ h => h)) (hL6.later (stepN (w0 := w6)).chg (fun _ _ h => h))).mono ?_
  rintro e w7 ⟨f7, caps7, T7, rfl, _, hL7, hT7⟩
  have hzc : w.heap.size ≤ zc := (NewA.monoS (w0 := w) (NewA.of_born (z := zc) 0)).out ⟨zc, 0, none⟩ rfl
  refine hK_.out _ _ inferInstance (fun _ => ?_)
  clear hK_ K_
  try simp only [Act.put, sA, sB, sC]
  refine' tk 9 _ rfl (by kernel_rfl) (by kernel_rfl) (by kernel_rfl) (fun _ _ _ h => h) (yo (by rfl) fun w' _ => ?_) inferInstance ?_
  rotate_left
  · (go_simp; try with_reducible rfl)
  try simp only [Act.put, sA, sB, sC]
  refine wpAnyH_done (by kernel_rfl) ?_ _
 rotate_left 1
 all_goals
  go_wp2_with fail
  go_ret
  refine ⟨f7, caps7, T7, rfl, stepN, hL7, fun x hx => ?_⟩
  rcases hT7 x hx with h | rfl | h | h
  · exact .inl (Nat.le_trans (stepN (w0 := w)).chg.size h)
  · exact .inl hzc
  · exact .inl (Nat.le_trans (stepN (w0 := w)).chg.size (hT5 x h))
  · rcases hT6 x h with h | rfl
    · exact .inl (Nat.le_trans (stepN (w0 := w)).chg.size h)
    · exact .inl hzb
/-- the blocks that pins lie in -/
def inPins (A : Option Addr) (P : List PinR) : Nat → Prop := fun x => cellsOf P ≠ [] ∧ rowOf A x
set_option maxRecDepth 100000 in
set_option maxHeartbeats 1600000 in
theorem laySnap_calls (v e0 : Int) {A : Option Addr} {n c : Nat} {P : List PinR} {w : World} [hr : HR w A (cellsOf P)] (hl : P.length = n) (hm : n ≤ 1000000000) :
    Calls Tryz.prog 66 #[.agg #[.int .i64 v, .int .i64 e0, .slice A n c]] w (FldPost w (encAll [v, e0] ++ (encAll [(n : Int)] ++ pinsE P)) (inPins A P)) := by
 have HRR := Lib.hid hr.out
 have HL := Lib.hid hl
 clear hl
 unfold FldPost
 go_enter Tryz.func66, Tryz.ntmps66
 go_wp2_with (first | ((with_reducible apply (wpl_box_agg (dst := some 1))); exact rfl; intro zt wzt _ _ _))
 have hwz := (stepN (w0 := w) (w := wzt)).chg.size
 refine wp_region_N (nowhere) (by kernel_rfl) (fun wd _ _ => ?_)
 refine' tk 0 _ rfl (by kernel_rfl) (by kernel_rfl) (by kernel_rfl) (fun _ _ _ h => h) (yo (by rfl) fun w' _ => ?_) inferInstance ?_
 rotate_left
 · (go_simp; try with_reducible rfl)
 try simp only [Act.put, sA, sB, sC]
 refine' tk 1 _ rfl (by kernel_rfl) (by kernel_rfl) (by kernel_rfl) (fun _ _ _ h => h) (yo (by rfl) fun w' _ => ?_) inferInstance ?_
 rotate_left
 · ((apply ev_loadcellN); exact rfl; infer_instance; infer_instance; exact rfl)
 try simp only [Act.put, sA, sB, sC]
 refine' tk 2 _ rfl (by kernel_rfl) (by kernel_rfl) (by kernel_rfl) (fun _ _ _ h => h) (yo (by rfl) fun w' _ => ?_) inferInstance ?_
 rotate_left
 · (go_simp; try with_reducible rfl)
 try simp only [Act.put, sA, sB, sC]
 refine' tk 3 _ rfl (by kernel_rfl) (by kernel_rfl) (by kernel_rfl) (fun _ _ _ h => h) (yo (by rfl) fun w' _ => ?_) inferInstance ?_
 rotate_left
 · ((apply ev_loadcellN); exact rfl; infer_instance; infer_instance; exact rfl)
 try simp only [Act.put, sA, sB, sC]
 refine' tk 6 _ rfl (by kernel_rfl) (by kernel_rfl) (by kernel_rfl) (fun _ _ _ h => h) (yo (by rfl) fun w' _ => ?_) inferInstance ?_
 rotate_left
 · (go_simp; try with_reducible rfl)
 try simp only [Act.put, sA, sB, sC]
 refine' tk 7 _ rfl (by kernel_rfl) (by kernel_rfl) (by kernel_rfl) (fun _ _ _ h => h) (yo (by rfl) fun w' _ => ?_) inferInstance ?_
 rotate_left
 · ((apply ev_loadcellN); exact rfl; infer_instance; infer_instance; exact rfl)
 try simp only [Act.put, sA, sB, sC]
 refine goH (i := 4) (by kernel_rfl) rfl (fun K_ hK_ => ?_)
 rw [if_pos (by kernel_rfl)]
 refine wpr_of_list ?_
 ((with_reducible apply (stop_dst (dst := some 7))); (try simp only [Act.put, sA, sB, sC]); ((with_reducible apply (wpl_bslice (dst := some 7))); exact run_int2 _ _ _; intro zb wb _ _ _))
 refine wpList_nil ?_
 unfold onlyN
 refine hK_.out _ _ inferInstance (fun _ => ?_)
 clear hK_ K_
 try simp only [Act.put, sA, sB, sC]
 refine goH (i := 5) (by kernel_rfl) rfl (fun K_ hK_ => ?_)
 go_simp
 refine (numsC (z := zb) (vs := [v, e0]) rfl rfl (show 9 * 2 ≤ 1000000000 by decide)).mono ?_
 rintro e w5 ⟨f5, caps5, T5, rfl, _, hL5, hT5⟩
 have hzb : w.heap.size ≤ zb := (NewA.monoS (w0 := w) (NewA.of_born (z := zb) 0)).out ⟨zb, 0, none⟩ rfl
 refine hK_.out _ _ inferInstance (fun _ => ?_)
 clear hK_ K_
 try simp only [Act.put, sA, sB, sC]
 refine goH (i := 8) (by kernel_rfl) rfl (fun K_ hK_ => ?_)
 go_simp
 refine (listP_calls (l := P) pinE nowhere (HRR.out.later (stepN (w0 := w)).chg) HL.out hm (fun _ h => h.elim) (fun x _ w1 _ => layPin_calls x w1)).mono ?_
 rintro e w6 ⟨f6, caps6, T6, rfl, _, hL6, hT6⟩
 refine hK_.out _ _ inferInstance (fun _ => ?_)
 clear hK_ K_
 try simp only [Act.put, sA, sB, sC]
 refine goH (i := 9) (by kernel_rfl) rfl (fun K_ hK_ => ?_)
 rw [if_pos (by kernel_rfl)]
 refine wpr_of_list ?_
 ((with_reducible apply (stop_dst (dst := some 12))); (try simp only [Act.put, sA, sB, sC]); ((with_reducible apply (wpl_bslice (dst := some 12))); exact run_fld2 _ _ _ _ _; intro zc wb _ _ _))
 refine wpList_nil ?_
 unfold onlyN
 refine hK_.out _ _ inferInstance (fun _ => ?_)
 clear hK_ K_
 try simp only [Act.put, sA, sB, sC]
 refine goH (i := 10) (by kernel_rfl) rfl (fun K_ hK_ => ?_)
 go_simp
 refine (fields2 (z := zc) (hL5.later (stepN (w0 := w5)).chg (fun _ _ h => h)) (hL6.later (stepN (w0 := w6)).chg (fun _ _ h => h))).mono ?_
 rintro e w7 ⟨f7, caps7, T7, rfl, _, hL7, hT7⟩
 have hzc : w.heap.size ≤ zc := (NewA.monoS (w0 := w) (NewA.of_born (z := zc) 0)).out ⟨zc, 0, none⟩ rfl
 refine hK_.out _ _ inferInstance (fun _ => ?_)
 clear hK_ K_
 try simp only [Act.put, sA, sB, sC]
 refine' tk 11 _ rfl (by kernel_rfl) (by kernel_rfl) (by kernel_rfl) (fun _ _ _ h => h) (yo (by rfl) fun w' _ => ?_) inferInstance ?_
 rotate_left
 · (go_simp; try with_reducible rfl)
 try simp only [Act.put, sA, sB, sC]
 refine wpAnyH_done (by kernel_rfl) ?_ _
 all_goals
  go_wp2_with fail
  go_ret
  refine ⟨f7, caps7, rfl, stepN, T7, hL7, fun x hx => ?_⟩
  rcases hT7 x hx with h | rfl | h | h
  · exact .inl (Nat.le_trans (stepN (w0 := w)).chg.size h)
  · exact .inl hzc
  · rcases hT5 x h with h | rfl
    · exact .inl (Nat.le_trans (stepN (w0 := w)).chg.size h)
    · exact .inl hzb
  · rcases hT6 x h with h | h | h
    · exact .inl (Nat.le_trans (stepN (w0 := w)).chg.size h)
    · exact .inr h
    · exact h.elim
theorem pinsE_len (P : List PinR) (h : P.all pinOk = true) : (pinsE P).length ≤ 40 * P.length := by
 induction P with
 | nil => exact Nat.zero_le _
 | cons p P ih =>
  have e : pinsE (p :: P) = pinE p ++ pinsE P := rfl
  rw [List.all_cons, Bool.and_eq_true] at h
  have h1 := ih h.2
  have h2 : p.l.length ≤ 12 := by
   have h3 := h.1
   unfold pinOk nameL at h3
   simp only [Bool.and_eq_true, decide_eq_true_eq] at h3
   exact h3.1.1.2
  have h3 := encRow_len p.l (by omega)
  have h4 := encAll_len [p.v]
  rw [e, List.length_append, List.length_cons, pinE, List.length_append]
  simp only [List.length_cons, List.length_nil] at h4
  omega
set_option maxRecDepth 100000 in
set_option maxHeartbeats 1600000 in
theorem encSnap_calls (v e0 : Int) {A : Option Addr} {n c : Nat} {P : List PinR} {w : World} [hr : HR w A (cellsOf P)] (hl : P.length = n) (hm : n ≤ 9223372036854775807) :
    Calls Tryz.prog 64 #[.int .i64 3, .agg #[.int .i64 v, .int .i64 e0, .slice A n c], .func (.func 65) #[] #[], .func (.func 66) #[] #[]] w (EncPost (snapOk v e0 P) (encAll [3] ++ (encAll [v, e0] ++ (encAll [(n : Int)] ++ pinsE P))) w) := by
 have HRR := Lib.hid hr.out
 have HL := Lib.hid hl
 clear hl
 unfold EncPost
 rcases hb : snapOk v e0 P with _ | _
 · go_enter Tryz.func64, Tryz.ntmps64
   go_wp2_with (first | ((with_reducible apply (wpl_box_agg (dst := some 5))); exact rfl; intro zt wzt _ _ _) | ((with_reducible apply wpl_loadrow); exact rfl; infer_instance; infer_instance; (first | (with_reducible assumption) | (with_reducible exact H32.size _) | (with_reducible exact enc_sz _ rfl) | kernel_rfl)))
   refine (isSnap_calls v e0 (P := P) HL.out hm).mono ?_
   rw [hb]
   rintro e w5 ⟨rfl, _⟩
   go_wp2_with fail
   go_ret2
   exact ⟨stepN, rfl⟩
 · have hb2 : P.length ≤ 16 ∧ P.all pinOk = true := by
     have h9 := hb
     unfold snapOk at h9
     simp only [Bool.and_eq_true, decide_eq_true_eq] at h9
     exact ⟨h9.1.1.2, h9.1.2⟩
   have HP := Lib.hid (pinsE_len P hb2.2)
   have HP16 := Lib.hid hb2.1
   clear hb2
   go_enter Tryz.func64, Tryz.ntmps64
   go_wp2_with (first | ((with_reducible apply (wpl_box_agg (dst := some 5))); exact rfl; intro zt wzt _ _ _) | ((with_reducible apply wpl_loadrow); exact rfl; infer_instance; infer_instance; (first | (with_reducible assumption) | (with_reducible exact H32.size _) | (with_reducible exact enc_sz _ rfl) | kernel_rfl)))
   refine (isSnap_calls v e0 (P := P) HL.out hm).mono ?_
   rw [hb]
   rintro e w5 ⟨rfl, _⟩
   go_wp2_with (first | ((with_reducible apply (wpl_alloc (dst := some 10))); intro zw wzw _ _ _))
   have hzw := (inferInstance : HB wzw zw 184 #[.slice none 0 0]).out.lt
   have n9 : Nw w wzw := inferInstance
   have hzw0 : w.heap.size ≤ zw := (NewA.monoS (w0 := w) (NewA.of_born (z := zw) 0)).out ⟨zw, 0, none⟩ rfl
   have hrz : HR wzw A (cellsOf P) := ⟨HRR.out.later n9.out⟩
   refine wp_region_N ((only zw)) (by kernel_rfl) (fun wd _ _ => ?_)
   refine' tk 0 _ rfl (by kernel_rfl) (by kernel_rfl) (by kernel_rfl) (fun _ _ _ h => h) (yo (by rfl) fun w' _ => ?_) inferInstance ?_
   rotate_left
   · (go_simp; try with_reducible rfl)
   try simp only [Act.put, sA, sB, sC]
   refine' tk 3 _ rfl (by kernel_rfl) (by kernel_rfl) (by kernel_rfl) (fun _ _ _ h => h) (yo (by rfl) fun w' _ => ?_) inferInstance ?_
   rotate_left
   · (go_simp; try with_reducible rfl)
   try simp only [Act.put, sA, sB, sC]
   refine' tk 4 _ rfl (by kernel_rfl) (by kernel_rfl) (by kernel_rfl) (fun _ _ _ h => h) (yo (by rfl) fun w' _ => ?_) inferInstance ?_
   rotate_left
   · ((apply ev_loadrow); exact rfl; infer_instance; infer_instance; (first | (with_reducible assumption) | (with_reducible exact H32.size _) | (with_reducible exact enc_sz _ rfl) | kernel_rfl))
   try simp only [Act.put, sA, sB, sC]
   refine goH (i := 1) (by kernel_rfl) rfl (fun K_ hK_ => ?_)
   rw [if_pos (by kernel_rfl)]
   refine wpr_of_list ?_
   ((with_reducible apply (stop_dst (dst := some 16))); (try simp only [Act.put, sA, sB, sC]); ((with_reducible apply (wpl_bslice (dst := some 16))); exact run_int1 _ _; intro zb wb _ _ _))
   refine wpList_nil ?_
   unfold onlyN
   refine hK_.out _ _ inferInstance (fun _ => ?_)
   clear hK_ K_
   try simp only [Act.put, sA, sB, sC]
   refine goH (i := 2) (by kernel_rfl) rfl (fun K_ hK_ => ?_)
   go_simp
   refine (numsC (z := zb) (vs := [3]) rfl rfl (show 9 * 1 ≤ 1000000000 by decide)).mono ?_
   rintro e w6 ⟨f6, caps6, T6, rfl, _, hL6, hT6⟩
   have hzb : wzw.heap.size ≤ zb := (NewA.monoS (w0 := wzw) (NewA.of_born (z := zb) 0)).out ⟨zb, 0, none⟩ rfl
   refine hK_.out _ _ inferInstance (fun _ => ?_)
   clear hK_ K_
   try simp only [Act.put, sA, sB, sC]
   refine goH (i := 5) (by kernel_rfl) rfl (fun K_ hK_ => ?_)
   go_simp
   refine (laySnap_calls v e0 (P := P) HL.out (by have h8 := HP16.out; have h9 := HL.out; omega)).mono ?_
   rintro e w7 ⟨f7, caps7, T7, rfl, _, hL7, hT7⟩
   refine hK_.out _ _ inferInstance (fun _ => ?_)
   clear hK_ K_
   try simp only [Act.put, sA, sB, sC]
   refine goH (i := 6) (by kernel_rfl) rfl (fun K_ hK_ => ?_)
   rw [if_pos (by kernel_rfl)]
   refine wpr_of_list ?_
   ((with_reducible apply (stop_dst (dst := some 21))); (try simp only [Act.put, sA, sB, sC]); ((with_reducible apply (wpl_bslice (dst := some 21))); exact run_fld2 _ _ _ _ _; intro zc wb _ _ _))
   refine wpList_nil ?_
   unfold onlyN
   refine hK_.out _ _ inferInstance (fun _ => ?_)
   clear hK_ K_
   try simp only [Act.put, sA, sB, sC]
   refine goH (i := 7) (by kernel_rfl) rfl (fun K_ hK_ => ?_)
   go_simp
   refine (fields2 (z := zc) (hL6.later (stepN (w0 := w6)).chg (fun _ _ h => h)) (hL7.later (stepN (w0 := w7)).chg (fun _ _ h => h))).mono ?_
   rintro e w8 ⟨f8, caps8, T8, rfl, _, hL8, hT8⟩
   have hzc : wzw.heap.size ≤ zc := (NewA.monoS (w0 := wzw) (NewA.of_born (z := zc) 0)).out ⟨zc, 0, none⟩ rfl
   obtain ⟨f9, caps9, he9, hent, hrun⟩ := hL8.run
   injection he9 with e1 _ e2
   injection e1 with e1
   subst e1 e2
   have hw8 : WrAt w8 zw none [] := ⟨⟨0, 0, rfl, (inferInstance : HB w8 zw 184 #[.slice none 0 0]).out, Own.nil _ _ _⟩, fun ad h => by cases h⟩
   have hT : ∀ x, Wf zw none x → ¬ T8 x := by
    rintro x (rfl | ⟨ad, e, _⟩) hx
    · rcases hT8 _ hx with h | h | h | h
      · have := Nat.le_trans (stepN (w0 := wzw)).chg.size h; omega
      · omega
      · rcases hT6 _ h with h | h
        · have := Nat.le_trans (stepN (w0 := wzw)).chg.size h; omega
        · omega
      · rcases hT7 _ h with h | ⟨hne, ad, e, hk⟩
        · have := Nat.le_trans (stepN (w0 := wzw)).chg.size h; omega
        · have := rd_lt HRR.out hne e; omega
    · cases e
   have hlen2 : ([] : List UInt8).length + (encAll [3] ++ (encAll [v, e0] ++ (encAll [(n : Int)] ++ pinsE P))).length ≤ 1000000000 := by
    have a1 := encAll_len [3]
    have a2 := encAll_len [v, e0]
    have a3 := encAll_len [(n : Int)]
    have a4 := HP.out
    have a5 := HP16.out
    simp only [List.length_append, List.length_cons, List.length_nil] at *
    omega
   have HRUN := Lib.hid (hrun w8 zw none [] (Chg.refl _ _) hw8 hT hlen2)
   clear hrun
   refine hK_.out _ _ inferInstance (fun _ => ?_)
   clear hK_ K_
   try simp only [Act.put, sA, sB, sC]
   refine goH (i := 8) (by kernel_rfl) rfl (fun K_ hK_ => ?_)
   go_simp
   refine HRUN.out.mono ?_
   rintro e w9 ⟨rfl, A9, hW9, hC9, hM9⟩
   have st9 : Step (only zw) w8 w9 := ⟨hC9.mono (fun x _ hx => by
    rcases hx with h | ⟨ad, e, _⟩
    · exact h
    · cases e)⟩
   refine hK_.out _ _ inferInstance (fun _ => ?_)
   clear hK_ K_
   try simp only [Act.put, sA, sB, sC]
   refine wpAnyH_done (by kernel_rfl) ?_ _
   have n99 : Nw w w9 := inferInstance
   go_wp2_with fail
   refine (Out_calls zw A9 _ w9 hW9 (by rw [List.length_append]; omega)).mono ?_
   rintro e w10 ⟨A10, n10, c10, rfl, hn, ho, hc, hnew⟩
   have st10 : Step nowhere w9 w10 := ⟨hc.out⟩
   go_wp2_with fail
   go_ret2
   exact ⟨stepN, A10, n10, c10, rfl, by have h9 := hn.out; simpa using h9, ⟨ho.out⟩, ⟨fun ad e => Nat.le_trans n99.out.size (hnew.out ad e)⟩⟩
set_option maxRecDepth 100000 in
theorem EncodeSnap_calls (v e0 : Int) {A : Option Addr} {n c : Nat} {P : List PinR} {w : World} [hr : HR w A (cellsOf P)] (hl : P.length = n) (hm : n ≤ 9223372036854775807) :
    Calls Tryz.prog 29 #[.agg #[.int .i64 v, .int .i64 e0, .slice A n c]] w (EncPost (snapOk v e0 P) (snapE v e0 P) w) := by
 rw [snapE, hl]
 unfold EncPost
 rcases hb : snapOk v e0 P with _ | _
 all_goals
  go_enter Tryz.func29, Tryz.ntmps29
  go_wp2_with (first | ((with_reducible apply (wpl_box_agg (dst := some 1))); exact rfl; intro zt wzt _ _ _) | ((with_reducible apply wpl_loadrow); exact rfl; infer_instance; infer_instance; (first | (with_reducible assumption) | (with_reducible exact H32.size _) | (with_reducible exact enc_sz _ rfl) | kernel_rfl)))
  refine (encSnap_calls v e0 (P := P) hl hm).mono ?_
  rintro e w5 ⟨_, h5⟩
  rw [hb] at h5
 · obtain rfl : e = _ := h5
   go_wp2_with fail
   go_ret2
   exact ⟨stepN, rfl⟩
 · obtain ⟨A1, n1, c1, rfl, hn, hO, hA⟩ := h5
   have HN := Lib.hid hn
   clear hn
   go_wp2_with fail
   go_ret2
   exact ⟨stepN, A1, n1, c1, rfl, by have h9 := HN.out; simpa using h9, hO, NewA.monoS hA⟩
end Go.Proofs.YtgjnjhhhbkidbaaGreat
