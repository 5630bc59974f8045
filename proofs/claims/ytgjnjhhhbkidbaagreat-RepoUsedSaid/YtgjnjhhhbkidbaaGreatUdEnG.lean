/- RoC, RoE, RoF, EnA, EnB, EnC, EnG -/
import Derived.Test.YtgjnjhhhbkidbaaGreatUdRoB
import Derived.Test.YtgjnjhhhbkidbaaGreatUdRoR
import Derived.Test.YtgjnjhhhbkidbaaGreatUdWsB
import Derived.Test.YtgjnjhhhbkidbaaGreatUdKyQ
import Derived.Test.YtgjnjhhhbkidbaaGreatUdWzB
import Derived.Test.YtgjnjhhhbkidbaaGreatUdWuA
import Derived.Test.YtgjnjhhhbkidbaaGreatUdRrB
section
open Go Go.RowKit
namespace Go.Proofs.YtgjnjhhhbkidbaaGreat
instance cellFKeysB : CellT Tryz.prog 217 := ⟨fun _ => by kernel_rfl, fun _ => by kernel_rfl⟩
instance cellFKeys : CellT Tryz.prog 219 := ⟨fun _ => by kernel_rfl, fun _ => by kernel_rfl⟩
instance zeroKeys : ZeroT Tryz.prog 91 #[.slice none 0 0, .int .i64 0] := ⟨.agg #[.slice none 0 0, .int .i64 0], fun _ => by kernel_rfl, rfl⟩
set_option maxRecDepth 100000 in
set_option maxHeartbeats 1600000 in
theorem each1K_calls {w : World} {g zl zf n c : Nat} {A B : Option Addr} {xs : List UInt8} {l : List KR} {t1 t2 : TypeId} {fx : FuncId} (hf : fx = 138) (ys : KR → List UInt8) (U : Nat → Prop) (hw : WrAt w g A xs) [h1 : HB w zl t1 #[.slice B n c]] [h2 : HB w zf t2 #[.func (.func fx) #[] #[]]] (hr : Rd w B (cellsOf l)) (hl : l.length = n) (hm : n ≤ 1000000000)
    (hU : ∀ x, U x → ¬ Wf g A x) (hUl : ∀ x, U x → x < w.heap.size) (hzl : ¬ Wf g A zl) (hzf : ¬ Wf g A zf) (hB : Apart (Wf g A) B (cellsOf l)) (hlay : ∀ x ∈ l, ∀ w1, Chg (fun x => ¬ U x) w w1 → Calls Tryz.prog 138 #[.agg (RowC.enc x).toArray] w1 (FldPost w1 (ys x) U)) (hx : xs.length + (l.flatMap ys).length ≤ 1000000000) :
    Calls Tryz.prog 180 #[.pointer (some ⟨g, 0, none⟩), .pointer (some ⟨zl, 0, none⟩), .pointer (some ⟨zf, 0, none⟩)] w fun e w' => e = .returned (.tuple #[]) ∧ ∃ A', WrAt w' g A' (xs ++ l.flatMap ys) ∧ Chg (Wf g A) w w' ∧ Moved w A A' := by
  subst hf
  have HL := Lib.hid hl
  have HLAY := Lib.hid hlay
  have HX := Lib.hid hx
  clear hlay hx
  go_enter Tryz.func180, Tryz.ntmps180
  go_wp2_with (first | ((with_reducible apply wpl_loadcellN); (exact rfl); infer_instance; (exact rfl)))
  go_loopw [8] (fun iv wr => ∃ (k : Nat) (A1 : Option Addr), k ≤ n ∧ iv = .int .i64 (k : Int) ∧ WrAt wr g A1 (xs ++ (l.take k).flatMap ys) ∧ Chg (Wf g A) w wr ∧ Moved w A A1) (fun iv _ => n - (intOf iv).toNat)
  case atStart => exact ⟨0, A, Nat.zero_le _, rfl, by simpa using hw, Chg.refl _ _, Moved.refl _ _⟩
  case round =>
    obtain ⟨k, A1, hk, rfl, hW, hC, hM⟩ := hrel
    have HW := Lib.hid hW
    have HM := Lib.hid hM
    clear hW hM
    by_cases hlt : k < n
    · have hltI : (k : Int) < n := by omega
      have hkl : k < l.length := by omega
      have hr1 : HR wr B (cellsOf l) := ⟨hr.chg hC hB⟩
      have k2 : HB wr zf t2 #[.func (.func 138) #[] #[]] := ⟨h2.out.chg hC hzf⟩
      have hmem : gt l k ∈ l := gt_mem l k hkl
      have HTK : Hid ((l.take (k + 1)).flatMap ys = (l.take k).flatMap ys ++ ys (gt l k)) := Lib.hid (by
        rw [← List.take_append_getElem hkl, List.flatMap_append]
        simp [gt, List.getD_eq_getElem?_getD, hkl])
      have HLE : Hid (((l.take k).flatMap ys).length + (ys (gt l k)).length ≤ (l.flatMap ys).length) := Lib.hid (by
        have e : l.flatMap ys = (l.take (k + 1)).flatMap ys ++ (l.drop (k + 1)).flatMap ys := by rw [← List.flatMap_append, List.take_append_drop]
        rw [e, HTK.out, List.length_append, List.length_append]
        omega)
      go_wp2_with (first | ((with_reducible apply (wpl_alloc (dst := some 5))); intro zv wzv _ _ _) | ((with_reducible apply wpl_loadrow); (exact rfl); infer_instance; infer_instance; (first | (with_reducible assumption) | (with_reducible exact H32.size _) | (with_reducible exact enc_sz _ rfl) | kernel_rfl)) | ((with_reducible apply wpl_loadcellN); (exact rfl); infer_instance; (exact rfl)) | ((with_reducible apply wpl_storerow); (exact rfl); (exact rfl); infer_instance; infer_instance; (first | (with_reducible assumption) | (with_reducible exact H32.size _) | (with_reducible exact enc_sz _ rfl) | kernel_rfl); (first | (with_reducible assumption) | (with_reducible exact H32.size _) | (with_reducible exact enc_sz _ rfl) | kernel_rfl); (first | (with_reducible exact u8s_one _) | (with_reducible assumption) | (with_reducible exact enc_one _) | kernel_rfl); intro ws _ _) | ((with_reducible apply (wpl_indexE (α := KR) (t := 216))); (exact rfl); (exact rfl); infer_instance; infer_instance; (first | (with_reducible assumption) | omega | (focus (simp; done)) | (focus (simp; omega; done)) | decide); (exact rfl); (decide); (first | (with_reducible assumption) | omega | (focus (simp; done)) | (focus (simp; omega; done)) | decide)) | ((with_reducible apply (wpl_loadE (α := KR) (t := 91))); infer_instance; (exact rfl); infer_instance; (exact rfl); (decide); (first | (with_reducible assumption) | omega | (focus (simp; done)) | (focus (simp; omega; done)) | decide)))
      refine (HLAY.out (gt l k) hmem _ ((hC.mono (fun x _ h h' => hU x h' h)).trans (stepN (w0 := wr)).chg (fun _ _ h => h.elim))).mono ?_
      rintro e w5 ⟨f, caps, T, rfl, hs5, hL5, hT5⟩
      have n5 : Nw wr w5 := inferInstance
      have hsz := n5.out.size
      obtain ⟨f9, caps9, he9, hent, hrun⟩ := hL5.run
      injection he9 with e1 _ e2
      injection e1 with e1
      subst e1 e2
      have hTT : ∀ x, Wf g A1 x → ¬ T x := by
        intro x hx hTx
        have hxl := HW.out.old x hx
        rcases hT5 x hTx with h | h
        · have := Nat.le_trans (stepN (w0 := wr)).chg.size h
          omega
        · rcases hx with rfl | ⟨ad, e, rfl⟩
          · exact hU _ h (.inl rfl)
          · rcases HM.out with rfl | ⟨ad', e', h'⟩
            · exact hU _ h (.inr ⟨ad, e, rfl⟩)
            · rw [e] at e'
              injection e' with e'
              subst e'
              have := hUl _ h
              omega
      have HRUN := Lib.hid (hrun w5 g A1 (xs ++ (l.take k).flatMap ys) (Chg.refl _ _) (HW.out.chg n5.out (fun _ _ h => h)) hTT (by
        have h1 := HLE.out
        have h2 := HX.out
        rw [List.length_append]
        omega))
      clear hrun hL5 hT5
      go_wp2_with fail
      refine HRUN.out.mono ?_
      rintro e w6 ⟨rfl, A6, hW6, hC6, hM6⟩
      have h7 := wf_trans (hC.trans n5.out (fun _ _ h => h.elim)) HM.out hC6 hM6
      have HW6 := Lib.hid hW6
      clear hW6 hC6 hM6
      go_wp2_with fail
      refine ⟨⟨k + 1, A6, by omega, by go_num, ?_, h7.1, h7.2⟩, by simp [intOf]; omega⟩
      rw [HTK.out, ← List.append_assoc]
      exact HW6.out
    · have hltI : ¬ (k : Int) < n := by omega
      have hfin : l.take k = l := List.take_of_length_le (by have := HL.out; omega)
      rw [hfin] at HW
      go_wp2_with fail
      go_end0
      exact ⟨rfl, A1, HW.out, hC, HM.out⟩
set_option maxRecDepth 100000 in
set_option maxHeartbeats 1600000 in
theorem eachK_calls {w : World} {n c : Nat} {B : Option Addr} {l : List KR} (ys : KR → List UInt8) (U : Nat → Prop) (hr : Rd w B (cellsOf l)) (hl : l.length = n) (hm : n ≤ 1000000000) (hUl : ∀ x, U x → x < w.heap.size)
    (hlay : ∀ x ∈ l, ∀ w1, Chg (fun x => ¬ U x) w w1 → Calls Tryz.prog 138 #[.agg (RowC.enc x).toArray] w1 (FldPost w1 (ys x) U)) :
    Calls Tryz.prog 137 #[.slice B n c, .func (.func 138) #[] #[]] w (FldPost w (l.flatMap ys) (fun x => (cellsOf l ≠ [] ∧ rowOf B x) ∨ U x)) := by
  have HLAY := Lib.hid hlay
  clear hlay
  unfold FldPost
  go_enter Tryz.func137, Tryz.ntmps137
  go_wp2_with (first | ((with_reducible apply (wpl_box_slice (dst := some 2))); (exact rfl); intro bl wbl _ _ _) | ((with_reducible apply (wpl_box (dst := some 3) (cs := #[.func (.func 138) #[] #[]]))); (exact rfl); (exact rfl); intro bv wbv _ _ _))
  go_ret
  have h1 : HB wbv bl 216 #[.slice B n c] := inferInstance
  have h2 : HB wbv bv 219 #[.func (.func 138) #[] #[]] := inferInstance
  have hst : Step nowhere w wbv := stepN
  have hbl : w.heap.size ≤ bl := Nat.le_of_eq (inferInstance : Born w bl).eq.symm
  have hbv : w.heap.size ≤ bv := by
    have e1 := (inferInstance : Born wbl bv).eq
    have e2 := (inferInstance : SzLe w wbl).out
    omega
  have hr2 := hr.later hst.chg
  refine ⟨_, _, fun x => x = bl ∨ x = bv ∨ (cellsOf l ≠ [] ∧ rowOf B x) ∨ U x, rfl, hst, ⟨fun x hx => ?_, _, _, rfl, run_enter Tryz.func180 (by kernel_rfl) rfl, fun w1 g A xs hc hw hT hlen => ?_⟩, fun x hx => ?_⟩
  · rcases hx with rfl | rfl | ⟨hne, ad, e, hk⟩ | h
    · exact h1.out.lt
    · exact h2.out.lt
    · rw [← hk]
      exact rd_lt hr2 hne e
    · exact Nat.lt_of_lt_of_le (hUl x h) hst.chg.size
  · have k1 : HB w1 bl 216 #[.slice B n c] := ⟨h1.out.chg hc (fun hk => hk (.inl rfl))⟩
    have k2 : HB w1 bv 219 #[.func (.func 138) #[] #[]] := ⟨h2.out.chg hc (fun hk => hk (.inr (.inl rfl)))⟩
    exact each1K_calls (zl := bl) (zf := bv) rfl ys U hw (hr2.chg hc (fun hne ad e hk => hk (.inr (.inr (.inl ⟨hne, ad, e, rfl⟩))))) hl hm
      (fun x hx h => hT x h (.inr (.inr (.inr hx)))) (fun x hx => Nat.lt_of_lt_of_le (Nat.lt_of_lt_of_le (hUl x hx) hst.chg.size) hc.size) (fun h => hT _ h (.inl rfl)) (fun h => hT _ h (.inr (.inl rfl))) (fun hne ad e hk => hT _ hk (.inr (.inr (.inl ⟨hne, ad, e, rfl⟩))))
      (fun x hx w2 h => HLAY.out x hx w2 (((hst.chg.mono (T := fun x => ¬ U x) (fun _ _ h => h.elim)).trans (hc.mono (fun x _ h h' => h (.inr (.inr (.inr h'))))) (fun _ _ h => h)).trans h (fun _ _ h => h))) (by omega)
  · rcases hx with rfl | rfl | h | h
    · exact .inl hbl
    · exact .inl hbv
    · exact .inr (.inl h)
    · exact .inr (.inr h)
/-- the blocks that keys' rows lie in -/
def usedK (K : List KR) : Nat → Prop := fun x => ∃ k ∈ K, inRow k.A k.l x
def keyOk (k : KR) : Bool := isB k.l k.need
set_option maxRecDepth 100000 in
set_option maxHeartbeats 1600000 in
theorem notKeys_calls (k : KR) {w : World} {zi : Nat} {t : TypeId} [hz : HB w zi t #[.func (.func 136) #[] #[]]] (hk : KIn w k) :
    Calls Tryz.prog 178 #[.agg (RowC.enc k).toArray, .pointer (some ⟨zi, 0, none⟩)] w fun e w' => e = .returned (.bool (!keyOk k)) ∧ Step nowhere w w' := by
  have HK := Lib.hid hk
  clear hk
  have hsz : (RowC.enc k).toArray.size = 2 := rfl
  go_enter Tryz.func178, Tryz.ntmps178
  go_wp2_with (first | ((with_reducible apply (wpl_box_agg (dst := some 2))); (exact rfl); intro zk wzk _ _ _) | ((with_reducible apply wpl_loadrow); (exact rfl); infer_instance; infer_instance; (first | (with_reducible assumption) | (with_reducible exact H32.size _) | (with_reducible exact enc_sz _ rfl) | kernel_rfl)) | ((with_reducible apply wpl_loadcellN); (exact rfl); infer_instance; (exact rfl)))
  have hr5 : HR wzk k.A (cellsOf k.l) := ⟨HK.out.rd.later (stepN (w0 := w)).chg⟩
  refine (wIsKeys_calls (l := k.l) k.need HK.out.len HK.out.cap (Nat.le_trans HK.out.le (by decide))).mono ?_
  rintro e w5 ⟨rfl, _⟩
  go_wp2_with fail
  go_ret
  exact ⟨rfl, stepN⟩
set_option maxRecDepth 100000 in
set_option maxHeartbeats 1600000 in
theorem idxK_calls {A : Option Addr} {n c zi : Nat} {t : TypeId} {K : List KR} {w : World} [hr : HR w A (cellsOf K)] [hz : HB w zi t #[.func (.func 136) #[] #[]]] (hK : ∀ k ∈ K, KIn w k) (hl : K.length = n) (hmax : n ≤ 1000000000) :
    Calls Tryz.prog 198 #[.slice A n c, .func (.func 178) #[] #[.pointer (some ⟨zi, 0, none⟩)]] w fun e w' => ∃ r : Int, e = .returned (.int .i64 r) ∧ (0 ≤ r ↔ K.any (fun k => !keyOk k) = true) ∧ Step nowhere w w' := by
  have HL := Lib.hid hl
  have HMI := Lib.hid hK
  obtain ⟨R, hR⟩ : ∃ R, R = K.any (fun k => !keyOk k) := ⟨_, rfl⟩
  rw [← hR]
  have HRR := Lib.hid hR
  clear hK hR
  go_enter Tryz.func198, Tryz.ntmps198
  go_wp2_with fail
  go_loopw [8] (fun kv wr => ∃ k : Nat, k ≤ n ∧ kv = .int .i64 (k : Int) ∧ Hid ((K.take k).any (fun k => !keyOk k) = false) ∧ Step nowhere w wr) (fun kv _ => n - (intOf kv).toNat)
  case atStart => exact ⟨0, Nat.zero_le _, rfl, Lib.hid rfl, stepN⟩
  case round =>
    obtain ⟨k, hk, rfl, HJ, _⟩ := hrel
    by_cases hlt : k < n
    · have hltI : (k : Int) < n := by omega
      have hkl : k < K.length := by omega
      have hmem : gt K k ∈ K := gt_mem K k hkl
      have HMK : Hid (KIn w (gt K k)) := Lib.hid (HMI.out _ hmem)
      have hts : (K.take (k + 1)).any (fun k => !keyOk k) = ((K.take k).any (fun k => !keyOk k) || !keyOk (gt K k)) := by
        rw [← List.take_append_getElem hkl, List.any_append]
        simp [gt, List.getD_eq_getElem?_getD, hkl]
      obtain ⟨V, hV⟩ : ∃ V, V = keyOk (gt K k) := ⟨_, rfl⟩
      rw [HJ.out, Bool.false_or, ← hV] at hts
      have HV := Lib.hid hV
      have HTS := Lib.hid hts
      have HAL : Hid (V = false → R = true) := Lib.hid (fun h => by rw [HRR.out]; exact List.any_eq_true.2 ⟨_, hmem, by rw [← hV, h]; rfl⟩)
      clear hmem hts hV
      go_wp2_with (first | ((with_reducible apply (wpl_indexE (α := KR) (t := 216))); (exact rfl); (exact rfl); infer_instance; infer_instance; (first | (with_reducible assumption) | omega | (focus (simp; done)) | (focus (simp; omega; done)) | decide); (exact rfl); (decide); (first | (with_reducible assumption) | omega | (focus (simp; done)) | (focus (simp; omega; done)) | decide)) | ((with_reducible apply (wpl_loadE (α := KR) (t := 91))); infer_instance; (exact rfl); infer_instance; (exact rfl); (decide); (first | (with_reducible assumption) | omega | (focus (simp; done)) | (focus (simp; omega; done)) | decide)))
      refine (notKeys_calls (gt K k) (KIn.nw HMK.out)).mono ?_
      rw [← HV.out]
      rintro e w1 ⟨rfl, _⟩
      cases V with
      | false =>
        have HAR : Hid (R = true) := Lib.hid (HAL.out rfl)
        clear HAL
        go_wp2_with fail
        go_ret
        exact ⟨_, rfl, ⟨fun _ => HAR.out, fun _ => by omega⟩, stepN⟩
      | true =>
        go_wp2_with fail
        exact ⟨⟨k + 1, by omega, by go_num, HTS, stepN⟩, by simp [intOf]; omega⟩
    · have hltI : ¬ (k : Int) < n := by omega
      have HF : Hid (R = false) := Lib.hid (by
        have h1 := HJ.out
        rw [HRR.out]
        rwa [List.take_of_length_le (by omega)] at h1)
      go_wp2_with fail
      go_ret
      refine ⟨_, rfl, ⟨fun h => by simp at h, fun h => ?_⟩, stepN⟩
      rw [HF.out] at h
      cases h
set_option maxRecDepth 100000 in
set_option maxHeartbeats 1600000 in
theorem contK_calls {A : Option Addr} {n c zi : Nat} {t : TypeId} {K : List KR} {w : World} [hr : HR w A (cellsOf K)] [hz : HB w zi t #[.func (.func 136) #[] #[]]] (hK : ∀ k ∈ K, KIn w k) (hl : K.length = n) (hmax : n ≤ 1000000000) :
    Calls Tryz.prog 177 #[.slice A n c, .func (.func 178) #[] #[.pointer (some ⟨zi, 0, none⟩)]] w fun e w' => e = .returned (.bool (K.any (fun k => !keyOk k))) ∧ Step nowhere w w' := by
  have HMI := Lib.hid hK
  clear hK
  go_enter Tryz.func177, Tryz.ntmps177
  go_wp2_with fail
  refine (idxK_calls (K := K) (fun r hr => HMI.out r hr) hl hmax).mono ?_
  rintro e w1 ⟨r, rfl, hr, _⟩
  have hd : decide (0 ≤ r) = K.any (fun k => !keyOk k) := by rw [Bool.eq_iff_iff, decide_eq_true_eq]; exact hr
  have HD := Lib.hid hd
  clear hd hr
  go_wp2_with fail
  go_ret
  refine ⟨?_, stepN⟩
  rw [← HD.out]
  rfl
set_option maxRecDepth 100000 in
set_option maxHeartbeats 1600000 in
theorem allK_calls {A : Option Addr} {n c : Nat} {K : List KR} {w : World} [hr : HR w A (cellsOf K)] (hK : ∀ k ∈ K, KIn w k) (hl : K.length = n) (hmax : n ≤ 1000000000) :
    Calls Tryz.prog 135 #[.slice A n c, .func (.func 136) #[] #[]] w fun e w' => e = .returned (.bool (K.all keyOk)) ∧ Step nowhere w w' := by
  have HMI := Lib.hid hK
  have hd : (!K.any (fun k => !keyOk k)) = K.all keyOk := by simp [List.all_eq_not_any_not]
  have HD := Lib.hid hd
  clear hK hd
  go_enter Tryz.func135, Tryz.ntmps135
  go_wp2_with (first | ((with_reducible apply (wpl_box (dst := some 3) (cs := #[.func (.func 136) #[] #[]]))); (exact rfl); (exact rfl); intro bl wbl _ _ _))
  refine (contK_calls (K := K) (fun k hk => KIn.nw (w0 := w) (HMI.out k hk)) hl hmax).mono ?_
  rintro e w5 ⟨rfl, _⟩
  go_wp2_with fail
  go_ret
  refine ⟨?_, stepN⟩
  rw [← HD.out]
  rfl
def rootOk (v e : Int) (K : List KR) : Bool := verB v && numB e && K.all keyOk
set_option maxRecDepth 100000 in
set_option maxHeartbeats 1600000 in
theorem isRoot_calls (v e0 : Int) (K : List KR) (h4 : K.length = 4) {w : World} (hK : ∀ k ∈ K, KIn w k) :
    Calls Tryz.prog 78 #[.agg (rtL v e0 K).toArray] w fun e w' => e = .returned (.bool (rootOk v e0 K)) ∧ Step nowhere w w' := by
  have HK := Lib.hid hK
  have H4 := Lib.hid h4
  have hlen := rtL_len v e0 K h4
  have hone := rtL_one v e0 K
  clear hK h4
  unfold rootOk
  rcases h1 : verB v with _ | _
  · rw [Bool.false_and, Bool.false_and]
    go_enter Tryz.func78, Tryz.ntmps78
    go_wp2_with (first | ((with_reducible apply (wpl_box_agg (dst := some 1))); (exact rfl); intro zt wzt _ _ _) | ((with_reducible apply wpl_loadcellN); (exact rfl); infer_instance; (exact rfl)))
    refine (version_calls v _).mono ?_
    rw [h1]
    rintro e w5 ⟨rfl, _⟩
    go_wp2_with (first | go_skip)
    go_ret
    exact ⟨rfl, stepN⟩
  · rcases h2 : numB e0 with _ | _
    · rw [Bool.true_and, Bool.false_and]
      go_enter Tryz.func78, Tryz.ntmps78
      go_wp2_with (first | ((with_reducible apply (wpl_box_agg (dst := some 1))); (exact rfl); intro zt wzt _ _ _) | ((with_reducible apply wpl_loadcellN); (exact rfl); infer_instance; (exact rfl)))
      refine (version_calls v _).mono ?_
      rw [h1]
      rintro e w5 ⟨rfl, _⟩
      go_wp2_with (first | ((with_reducible apply (wpl_guard (op := .load _ _))); (exact rfl)) | ((with_reducible apply (wpl_guard (op := .fieldAddr _ _ _))); (exact rfl)) | ((with_reducible apply wpl_loadcellN); (exact rfl); infer_instance; (exact rfl)))
      refine (number_calls e0 _).mono ?_
      rw [h2]
      rintro e w6 ⟨rfl, _⟩
      go_wp2_with (first | go_skip)
      go_ret
      exact ⟨rfl, stepN⟩
    · rw [Bool.true_and, Bool.true_and]
      go_enter Tryz.func78, Tryz.ntmps78
      go_wp2_with (first | ((with_reducible apply (wpl_box_agg (dst := some 1))); (exact rfl); intro zt wzt _ _ _) | ((with_reducible apply wpl_loadcellN); (exact rfl); infer_instance; (exact rfl)))
      refine (version_calls v _).mono ?_
      rw [h1]
      rintro e w5 ⟨rfl, _⟩
      go_wp2_with (first | ((with_reducible apply (wpl_guard (op := .load _ _))); (exact rfl)) | ((with_reducible apply (wpl_guard (op := .fieldAddr _ _ _))); (exact rfl)) | ((with_reducible apply wpl_loadcellN); (exact rfl); infer_instance; (exact rfl)))
      refine (number_calls e0 _).mono ?_
      rw [h2]
      rintro e w6 ⟨rfl, _⟩
      have ht6 : HB w6 zt 94 (rtL v e0 K).toArray := inferInstance
      have hr6 : HR w6 (some ⟨zt, 2, none⟩) (cellsOf K) := root_tail ht6
      go_wp2_with (first | ((with_reducible apply wpl_sl_arrS); (exact rfl); (exact Tryz.underlying92); (kernel_rfl)) | ((with_reducible apply (wpl_guard (op := .slice _ _ none none none))); (exact rfl)) | ((with_reducible apply (wpl_guard (op := .fieldAddr _ _ _))); (exact rfl)))
      refine (allK_calls (K := K) (fun k hk => KIn.nw (w0 := w) (HK.out k hk)) H4.out (by decide)).mono ?_
      rintro e w7 ⟨rfl, _⟩
      go_wp2_with fail
      go_ret
      exact ⟨rfl, stepN⟩
/-- keys' bytes -/
def keysE (K : List KR) : List UInt8 := K.flatMap fun k => keyB k.l k.need
set_option maxRecDepth 100000 in
set_option maxHeartbeats 1600000 in
theorem layRoot_calls (v e0 : Int) (K : List KR) (h4 : K.length = 4) {w : World} (hK : ∀ k ∈ K, KIn w k) :
    Calls Tryz.prog 79 #[.agg (rtL v e0 K).toArray] w (FldPost w (encAll [v, e0] ++ keysE K) (usedK K)) := by
  have HK := Lib.hid hK
  have H4 := Lib.hid h4
  have hlen := rtL_len v e0 K h4
  have hone := rtL_one v e0 K
  clear hK h4
  unfold FldPost
  go_enter Tryz.func79, Tryz.ntmps79
  go_wp2_with (first | ((with_reducible apply (wpl_box_agg (dst := some 1))); (exact rfl); intro zt wzt _ _ _))
  have hzt : w.heap.size ≤ zt := Nat.le_of_eq (inferInstance : Born w zt).eq.symm
  have hrt : Rd wzt (some ⟨zt, 2, none⟩) (cellsOf K) := (root_tail (inferInstance : HB wzt zt 94 (rtL v e0 K).toArray)).out
  have HRT := Lib.hid hrt
  clear hrt
  refine wp_region_N (nowhere) (by kernel_rfl) (fun wd _ _ => ?_)
  refine' takeH (i := 0) (v := _) rfl (by kernel_rfl) (by kernel_rfl) (by kernel_rfl) (fun _ _ _ h => h) (yields_of (by rfl) (fun w' _ => ?_)) inferInstance ?_
  rotate_left
  · (go_simp; try with_reducible rfl)
  try simp only [Act.put, sA]; try simp only [sB, sC]
  refine' takeH (i := 1) (v := _) rfl (by kernel_rfl) (by kernel_rfl) (by kernel_rfl) (fun _ _ _ h => h) (yields_of (by rfl) (fun w' _ => ?_)) inferInstance ?_
  rotate_left
  · ((with_reducible apply ev_loadcellN); (exact rfl); infer_instance; infer_instance; (exact rfl))
  try simp only [Act.put, sA]; try simp only [sB, sC]
  refine' takeH (i := 2) (v := _) rfl (by kernel_rfl) (by kernel_rfl) (by kernel_rfl) (fun _ _ _ h => h) (yields_of (by rfl) (fun w' _ => ?_)) inferInstance ?_
  rotate_left
  · (go_simp; try with_reducible rfl)
  try simp only [Act.put, sA]; try simp only [sB, sC]
  refine' takeH (i := 3) (v := _) rfl (by kernel_rfl) (by kernel_rfl) (by kernel_rfl) (fun _ _ _ h => h) (yields_of (by rfl) (fun w' _ => ?_)) inferInstance ?_
  rotate_left
  · ((with_reducible apply ev_loadcellN); (exact rfl); infer_instance; infer_instance; (exact rfl))
  try simp only [Act.put, sA]; try simp only [sB, sC]
  refine' takeH (i := 6) (v := _) rfl (by kernel_rfl) (by kernel_rfl) (by kernel_rfl) (fun _ _ _ h => h) (yields_of (by rfl) (fun w' _ => ?_)) inferInstance ?_
  rotate_left
  · (go_simp; try with_reducible rfl)
  try simp only [Act.put, sA]; try simp only [sB, sC]
  refine' takeH (i := 7) (v := _) rfl (by kernel_rfl) (by kernel_rfl) (by kernel_rfl) (fun _ _ _ h => h) (yields_of (by rfl) (fun w' _ => ?_)) inferInstance ?_
  rotate_left
  · ((with_reducible apply ev_sl_arrS); (exact rfl); (exact Tryz.underlying92); (kernel_rfl))
  try simp only [Act.put, sA]; try simp only [sB, sC]
  refine goH (i := 4) (by kernel_rfl) rfl (fun K_ hK_ => ?_)
  rw [if_pos (by kernel_rfl)]
  refine wpr_of_list ?_
  (first | ((with_reducible apply (stop_dst (dst := some 7))); (try simp only [Act.put, sA, sB, sC]); ((with_reducible apply (wpl_bslice (dst := some 7))); (exact run_int2 _ _ _); intro zb wb _ _ _)) | ((with_reducible apply (stop_dst (dst := some 12))); (try simp only [Act.put, sA, sB, sC]); ((with_reducible apply (wpl_bslice (dst := some 12))); (exact run_fld2 _ _ _ _ _); intro zc wb _ _ _)))
  refine wpList_nil ?_
  unfold onlyN
  refine hK_.out _ _ inferInstance (fun _ => ?_)
  clear hK_ K_
  try simp only [Act.put, sA]; try simp only [sB, sC]
  refine goH (i := 5) (by kernel_rfl) rfl (fun K_ hK_ => ?_)
  go_simp
  refine (numsC (z := zb) (vs := [v, e0]) rfl rfl (show 9 * 2 ≤ 1000000000 by decide)).mono ?_
  rintro e w5 ⟨f5, caps5, T5, rfl, _, hL5, hT5⟩
  have hzb : w.heap.size ≤ zb := (NewA.monoS (w0 := w) (NewA.of_born (z := zb) 0)).out ⟨zb, 0, none⟩ rfl
  refine hK_.out _ _ inferInstance (fun _ => ?_)
  clear hK_ K_
  try simp only [Act.put, sA]; try simp only [sB, sC]
  refine goH (i := 8) (by kernel_rfl) rfl (fun K_ hK_ => ?_)
  go_simp
  refine (eachK_calls (l := K) (fun k => keyB k.l k.need) (usedK K) (HRT.out.later (stepN (w0 := wzt)).chg) H4.out (by decide) (fun x ⟨k, hk, hx⟩ => Nat.lt_of_lt_of_le ((HK.out k hk).low x hx) (stepN (w0 := w)).chg.size) (fun k hk w1 hc => (layKeys_calls k ((KIn.nw (w0 := w) (HK.out k hk)).chg hc (fun x hx h => h ⟨k, hk, hx⟩))).mono (FldPost.mono rfl (fun x hx => ⟨k, hk, hx⟩)))).mono ?_
  rintro e w6 ⟨f6, caps6, T6, rfl, _, hL6, hT6⟩
  refine hK_.out _ _ inferInstance (fun _ => ?_)
  clear hK_ K_
  try simp only [Act.put, sA]; try simp only [sB, sC]
  refine goH (i := 9) (by kernel_rfl) rfl (fun K_ hK_ => ?_)
  rw [if_pos (by kernel_rfl)]
  refine wpr_of_list ?_
  (first | ((with_reducible apply (stop_dst (dst := some 7))); (try simp only [Act.put, sA, sB, sC]); ((with_reducible apply (wpl_bslice (dst := some 7))); (exact run_int2 _ _ _); intro zb wb _ _ _)) | ((with_reducible apply (stop_dst (dst := some 12))); (try simp only [Act.put, sA, sB, sC]); ((with_reducible apply (wpl_bslice (dst := some 12))); (exact run_fld2 _ _ _ _ _); intro zc wb _ _ _)))
  refine wpList_nil ?_
  unfold onlyN
  refine hK_.out _ _ inferInstance (fun _ => ?_)
  clear hK_ K_
  try simp only [Act.put, sA]; try simp only [sB, sC]
  refine goH (i := 10) (by kernel_rfl) rfl (fun K_ hK_ => ?_)
  go_simp
  refine (fields2 (z := zc) (hL5.later (stepN (w0 := w5)).chg (fun _ _ h => h)) (hL6.later (stepN (w0 := w6)).chg (fun _ _ h => h))).mono ?_
  rintro e w7 ⟨f7, caps7, T7, rfl, _, hL7, hT7⟩
  have hzc : w.heap.size ≤ zc := (NewA.monoS (w0 := w) (NewA.of_born (z := zc) 0)).out ⟨zc, 0, none⟩ rfl
  refine hK_.out _ _ inferInstance (fun _ => ?_)
  clear hK_ K_
  try simp only [Act.put, sA]; try simp only [sB, sC]
  refine' takeH (i := 11) (v := _) rfl (by kernel_rfl) (by kernel_rfl) (by kernel_rfl) (fun _ _ _ h => h) (yields_of (by rfl) (fun w' _ => ?_)) inferInstance ?_
  rotate_left
  · (go_simp; try with_reducible rfl)
  try simp only [Act.put, sA]; try simp only [sB, sC]
  refine wpAnyH_done (by kernel_rfl) ?_ _
  all_goals
    go_wp2_with fail
    go_ret
    refine ⟨f7, caps7, rfl, stepN, T7, hL7, fun x hx => ?_⟩
    rcases hT7 x hx with h | rfl | h | h
    · exact .inl (Nat.le_trans (stepN (w0 := w)).chg.size h)
    · exact .inl hzc
    · rcases hT5 x h with h | rfl
      · exact .inl (Nat.le_trans (stepN (w0 := w)).chg.size h)
      · exact .inl hzb
    · rcases hT6 x h with h | ⟨_, ad, e, hk⟩ | h
      · exact .inl (Nat.le_trans (stepN (w0 := w)).chg.size h)
      · injection e with e
        subst e
        exact .inl (Nat.le_trans hzt (Nat.le_of_eq hk))
      · exact .inr h
end Go.Proofs.YtgjnjhhhbkidbaaGreat
end
section
open Go Go.RowKit
namespace Go.Proofs.YtgjnjhhhbkidbaaGreat
/-- one digest as a slice of its own -/
theorem run_oneHW (hh : H32) (w : World) : (Instr.buildSlice 89 1 #[(0, .agg (u8s hh.l))]).run Tryz.prog w = .ok (.slice (some ⟨w.heap.size, 0, none⟩) 1 1) (w.alloc (.cells (u8s hh.l) 23)) := by
  have hs := hh.size
  have hz : ∀ w, (zeroValue 23).run Tryz.prog w = .ok (.agg (u8s zeroH.l)) w := fun _ => by kernel_rfl
  have hi : ∀ w, (sizeOf 23).run Tryz.prog w = .ok 32 w := fun _ => by kernel_rfl
  unfold Instr.buildSlice
  simp only [Sem.run_bind, run_underlying Tryz.underlying89, Result.andThen_ok, hi]
  have hf : Instr.fill (fun i => some (i * 32, 32)) ((Array.range (1 * 32)).map ((u8s zeroH.l)[· % (u8s zeroH.l).size]!)) [(0, Value.agg (u8s hh.l))] = some (u8s hh.l) := by
    rw [fill_step _ _ 0 (.agg (u8s hh.l)) [] (off := 0) (size := 32) rfl hs (by simp), lay_whole _ _ (by show (u8s hh.l).size = _; rw [hs]; simp)]
    rfl
  simp [hz, Value.cells, hf, newRow]
theorem newA_grew {w0 w : World} {A A' : Option Addr} (g : Grew w A A') (h : NewA w0 A) (s : w0.heap.size ≤ w.heap.size) : NewA w0 A' := ⟨fun ad e => by
  rcases g.out with k | k
  · exact h.out ad (by rw [← k]; exact e)
  · rw [k] at e
    injection e with e
    subst e
    exact s⟩
theorem newA_none (w : World) : NewA w none := ⟨fun ad e => by cases e⟩
end Go.Proofs.YtgjnjhhhbkidbaaGreat
end
section
open Go Go.RowKit
namespace Go.Proofs.YtgjnjhhhbkidbaaGreat
theorem run_keysKR (k : KR) (w : World) : (Instr.build 91 #[(0, .slice k.A k.n k.c), (1, .int .i64 k.need)]).run Tryz.prog w = .ok (.agg (RowC.enc k).toArray) w := by kernel_rfl
end Go.Proofs.YtgjnjhhhbkidbaaGreat
end
section
open Go Go.RowKit
namespace Go.Proofs.YtgjnjhhhbkidbaaGreat
def zeroMk : Array Value := u8s zeroH.l ++ #[.int .i64 0, .slice none 0 0, .slice none 0 0]
instance zeroTMk : ZeroT Tryz.prog 133 zeroMk := ⟨.agg zeroMk, fun _ => by kernel_rfl, rfl⟩
instance zeroTEnv : ZeroT Tryz.prog 32 #[.slice none 0 0, .slice none 0 0] := ⟨.agg #[.slice none 0 0, .slice none 0 0], fun _ => by kernel_rfl, rfl⟩
def mkOk (r : MarkR) : Bool := mkOkM r.m
end Go.Proofs.YtgjnjhhhbkidbaaGreat
end
section
open Go Go.RowKit
namespace Go.Proofs.YtgjnjhhhbkidbaaGreat
/-- the blocks that a mark's rows lie in -/
def inMk (r : MarkR) : Nat → Prop := fun x => inRow r.A r.l x ∨ inRow r.B r.p x
def inMks (L : List MarkR) : Nat → Prop := fun x => ∃ r ∈ L, inMk r x
theorem MarkIn.chg {S : Nat → Prop} {w0 w : World} {r : MarkR} (h : MarkIn w0 r) (hc : Chg S w0 w) (hS : ∀ x, inMk r x → ¬ S x) : MarkIn w r := ⟨h.1.chg hc (fun hne ad e hk => hS _ (.inl ⟨hne, ad, e, rfl⟩) hk), h.2.chg hc (fun hne ad e hk => hS _ (.inr ⟨hne, ad, e, rfl⟩) hk)⟩
theorem MarkIn.low {w : World} {r : MarkR} (h : MarkIn w r) (x : Nat) (hx : inMk r x) : x < w.heap.size := by
  rcases hx with ⟨hne, ad, e, rfl⟩ | ⟨hne, ad, e, rfl⟩
  · exact rd_lt h.1 hne e
  · exact rd_lt h.2 hne e
/-- the blocks that an envelope lies in -/
def inEnv (M : Option Addr) (m : List UInt8) (A : Option Addr) (L : List MarkR) : Nat → Prop := fun x => (bs m ≠ [] ∧ rowOf M x) ∨ (cellsOf L ≠ [] ∧ rowOf A x) ∨ inMks L x
end Go.Proofs.YtgjnjhhhbkidbaaGreat
end
section
open Go Go.RowKit
namespace Go.Proofs.YtgjnjhhhbkidbaaGreat
end Go.Proofs.YtgjnjhhhbkidbaaGreat
end
section
open Go Go.RowKit
namespace Go.Proofs.YtgjnjhhhbkidbaaGreat
end Go.Proofs.YtgjnjhhhbkidbaaGreat
end
