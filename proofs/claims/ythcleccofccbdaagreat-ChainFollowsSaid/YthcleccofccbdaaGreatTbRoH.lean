/- RoH -/
import Derived.Test.YthcleccofccbdaaGreatTbRoD
import Derived.Test.YthcleccofccbdaaGreatTbRoR
open Go Go.RowKit
namespace Go.Proofs.YthcleccofccbdaaGreat
theorem gtK_in {w : World} {K : List KR} (h : ∀ k ∈ K, KIn w k) (k : Nat) (hk : k < K.length) : KIn w (gt K k) := h _ (gt_mem K k hk)
theorem allK_take (K : List KR) (k : Nat) (h : k < K.length) : (K.take (k + 1)).all keyOk = ((K.take k).all keyOk && keyOk (gt K k)) := by
  rw [← List.take_append_getElem h, List.all_append]
  simp [gt, List.getD_eq_getElem?_getD, h]
theorem keysE_take (K : List KR) (k : Nat) (h : k < K.length) : keysE (K.take (k + 1)) = keysE (K.take k) ++ keyB (gt K k).l (gt K k).need := by
  rw [← List.take_append_getElem h, keysE, List.flatMap_append]
  simp [gt, List.getD_eq_getElem?_getD, h, keysE]
set_option maxRecDepth 100000 in
set_option maxHeartbeats 1600000 in
theorem rIsRoot_calls (v e0 : Int) (K : List KR) (h4 : K.length = 4) {w : World} (hK : ∀ k ∈ K, KIn w k) :
    Calls Tryz.prog 14 #[.agg (rtL v e0 K).toArray] w fun e w' => e = .returned (.bool (rootOk v e0 K)) ∧ Step nowhere w w' := by
  have HK := Lib.hid hK
  have H4 := Lib.hid h4
  have hlen := rtL_len v e0 K h4
  have hone := rtL_one v e0 K
  have kb1 := run_int1 e0
  obtain ⟨R, hR⟩ : ∃ R, R = rootOk v e0 K := ⟨_, rfl⟩
  have HR0 : Hid (R = (verB v && numB e0 && K.all keyOk)) := Lib.hid hR
  rw [← hR]
  clear hK h4 hR
  go_enter Tryz.func14, Tryz.ntmps14
  go_wp2_with (first | ((with_reducible apply (wpl_box_agg (dst := some 1))); (exact rfl); intro zt wzt _ _ _))
  go_loopw [3] (fun iv wr => ∃ k : Nat, k ≤ 4 ∧ iv = .int .i64 (k : Int) ∧ Hid ((K.take k).all keyOk = true) ∧ Step nowhere w wr ∧ HB wr zt 45 (rtL v e0 K).toArray) (fun iv _ => 4 - (intOf iv).toNat)
  case atStart => exact ⟨0, Nat.zero_le _, rfl, Lib.hid rfl, stepN, inferInstance⟩
  case round =>
    obtain ⟨k, hk, rfl, HA, st, ht⟩ := hrel
    have nr : Nw w wr := ⟨st.chg⟩
    by_cases hlt : k < 4
    · have hltI : (k : Int) < 4 := by omega
      have hkl : k < K.length := by rw [H4.out]; exact hlt
      have hki := KIn.nw (w := wr) (gtK_in HK.out k hkl)
      have hrk : HR wr (gt K k).A (cellsOf (gt K k).l) := ⟨hki.rd⟩
      have HKI := Lib.hid hki
      have hat := allK_take K k hkl
      obtain ⟨V, hV⟩ : ∃ V, V = keyOk (gt K k) := ⟨_, rfl⟩
      rw [HA.out, Bool.true_and, ← hV] at hat
      have HAT := Lib.hid hat
      have HV := Lib.hid hV
      have HNO : Hid (V = false → R = false) := Lib.hid (fun h => by
        have h1 : K.all keyOk = false := by
          rw [← Bool.not_eq_true, List.all_eq_true]
          intro h2
          have h3 := h2 _ (gt_mem K k hkl)
          rw [← hV, h] at h3
          cases h3
        rw [HR0.out, h1, Bool.and_false])
      clear hki hat hV
      go_wp2_with (first | ((with_reducible apply (wpl_indexRK (i := k) (m := 4))); (exact rfl); (exact rfl); (exact Tryz.underlying43); (kernel_rfl); (exact hlt)) | ((with_reducible apply (wpl_loadRK (i := k))); (exact rfl); (exact ht); infer_instance; (exact hkl)))
      refine (isKeys_calls (l := (gt K k).l) (gt K k).need HKI.out.len (Nat.le_trans HKI.out.le (by decide))).mono ?_
      rw [show isB (gt K k).l (gt K k).need = V from HV.out.symm]
      rintro e w5 ⟨rfl, _⟩
      cases V
      case false =>
        have HF : Hid (R = false) := Lib.hid (HNO.out rfl)
        clear HNO
        go_wp2_with fail
        go_ret
        rw [HF.out]
        exact ⟨rfl, stepN⟩
      case true =>
        clear HNO
        go_wp2_with fail
        exact ⟨⟨k + 1, by omega, by go_num, HAT, stepN, inferInstance⟩, by simp [intOf]; omega⟩
    · have hltI : ¬ (k : Int) < 4 := by omega
      have hk4 : k = 4 := by omega
      have HF : Hid (R = (verB v && numB e0)) := Lib.hid (by
        have h1 := HA.out
        rw [List.take_of_length_le (by rw [H4.out]; omega)] at h1
        rw [HR0.out, h1, Bool.and_true])
      clear HA hk4
      cases h1 : verB v
      case false =>
        go_wp2_with (first | ((with_reducible apply wpl_loadcellN); (exact rfl); infer_instance; (exact rfl)))
        refine (rVersion_calls v _).mono ?_
        rw [h1]
        rintro e w5 ⟨rfl, _⟩
        go_wp2_with (first | go_skip)
        go_ret
        rw [HF.out, h1]
        exact ⟨rfl, stepN⟩
      case true =>
        go_wp2_with (first | ((with_reducible apply wpl_loadcellN); (exact rfl); infer_instance; (exact rfl)))
        refine (rVersion_calls v _).mono ?_
        rw [h1]
        rintro e w5 ⟨rfl, _⟩
        go_wp2_with (first | ((with_reducible apply (wpl_guard (op := .load _ _))); (exact rfl)) | ((with_reducible apply (wpl_guard (op := .buildSlice _ _ _))); (exact rfl)) | ((with_reducible apply (stop_dst (dst := some 20))); (try simp only [Act.put, sA, sB, sC]); ((with_reducible apply (wpl_bslice (dst := some 20))); (exact kb1 _); intro zb wb _ _ _)) | ((with_reducible apply (wpl_guard (op := .fieldAddr _ _ _))); (exact rfl)) | ((with_reducible apply wpl_loadcellN); (exact rfl); infer_instance; (exact rfl)))
        have hr2 : HR wb (some ⟨zb, 0, none⟩) (i64l [e0]) := HR.ints1 (inferInstance : HB wb zb 3 #[.int .i64 e0])
        refine (rNum_calls (l := [e0]) (n := 1) (c := 1) rfl (by decide)).mono ?_
        rw [allNum1]
        rintro e w6 ⟨rfl, _⟩
        go_wp2_with fail
        go_ret
        rw [HF.out, h1]
        exact ⟨rfl, stepN⟩
set_option maxRecDepth 100000 in
set_option maxHeartbeats 1600000 in
theorem rEncodeRoot_calls (v e0 : Int) (K : List KR) (h4 : K.length = 4) {w : World} (hK : ∀ k ∈ K, KIn w k) :
    Calls Tryz.prog 172 #[.agg (rtL v e0 K).toArray] w (EncPost (rootOk v e0 K) (encAll [1] ++ (encAll [v, e0] ++ keysE K)) w) := by
  have HK := Lib.hid hK
  have H4 := Lib.hid h4
  have hlen := rtL_len v e0 K h4
  have hone := rtL_one v e0 K
  have kb3 := run_int3 1 v e0
  have HE : Hid (encAll [1] ++ (encAll [v, e0] ++ keysE K) = encAll [1, v, e0] ++ keysE K) := Lib.hid (by rw [← List.append_assoc, ← encAll_app]; rfl)
  have HE3 : Hid ((encAll [1, v, e0]).length ≤ 27) := Lib.hid (encAll_len [1, v, e0])
  rw [HE.out]
  clear hK h4 HE
  unfold EncPost
  cases hb : rootOk v e0 K
  case false =>
    go_enter Tryz.func172, Tryz.ntmps172
    go_wp2_with (first | ((with_reducible apply (wpl_box_agg (dst := some 1))); (exact rfl); intro zt wzt _ _ _) | ((with_reducible apply wpl_loadrow); (exact rfl); infer_instance; infer_instance; (first | (with_reducible assumption) | (with_reducible exact H32.size _) | kernel_rfl)))
    refine (rIsRoot_calls v e0 K H4.out (fun k hk => KIn.nw (w0 := w) (HK.out k hk))).mono ?_
    rw [hb]
    rintro e w5 ⟨rfl, _⟩
    go_wp2_with fail
    go_ret2
    exact ⟨stepN, rfl⟩
  case true =>
    go_enter Tryz.func172, Tryz.ntmps172
    go_wp2_with (first | ((with_reducible apply (wpl_box_agg (dst := some 1))); (exact rfl); intro zt wzt _ _ _) | ((with_reducible apply wpl_loadrow); (exact rfl); infer_instance; infer_instance; (first | (with_reducible assumption) | (with_reducible exact H32.size _) | kernel_rfl)))
    refine (rIsRoot_calls v e0 K H4.out (fun k hk => KIn.nw (w0 := w) (HK.out k hk))).mono ?_
    rw [hb]
    rintro e w5 ⟨rfl, _⟩
    have n5 : Nw w w5 := inferInstance
    have hl5 := (inferInstance : HB w5 zt 45 (rtL v e0 K).toArray).out.lt
    go_wp2_with (first | ((with_reducible apply (stop_dst (dst := some 13))); (try simp only [Act.put, sA, sB, sC]); ((with_reducible apply (wpl_bslice (dst := some 13))); (exact kb3 _); intro zi wb _ _ _)) | ((with_reducible apply wpl_loadcellN); (exact rfl); infer_instance; (exact rfl)))
    refine (refNums_calls (some ⟨zi, 0, none⟩) 3 3 [1, v, e0] _ (HB.rdL (z := zi) (t := 3) (cs := #[.int .i64 1, .int .i64 v, .int .i64 e0]) inferInstance) rfl (show 3 ≤ 1000000000 by decide)).mono ?_
    rintro e w6 ⟨A6, n6, c6, rfl, hF⟩
    have st6 : Step nowhere _ w6 := ⟨hF.out.chg⟩
    have hsz6 : w5.heap.size ≤ wb.heap.size := (inferInstance : SzLe w5 wb).out
    have hA6 : NewA w A6 := ⟨fun ad e => Nat.le_trans (Nat.le_trans n5.out.size hsz6) (hF.out.new ad e)⟩
    have ho6 : HO w6 5 1 A6 n6 c6 (bs (encAll [1, v, e0] ++ keysE (K.take 0))) := by
      have h1 := fresh_hoW hF.out
      simpa [keysE] using h1
    have hn6 : n6 ≤ 27 := by
      have h1 := hF.out.len
      have := HE3.out
      omega
    have HN6 : Hid (n6 = (encAll [1, v, e0] ++ keysE (K.take 0)).length) := Lib.hid (by rw [hF.out.len]; simp [keysE])
    have os : OffB (rowOf A6) zt := ⟨fun ⟨ad, e, hk⟩ => by
      have h1 := Nat.le_trans hsz6 (hF.out.new ad e)
      omega⟩
    have ht6 : HB w6 zt 45 (rtL v e0 K).toArray := inferInstance
    clear hF
    go_wp2_with fail
    go_loopw [4, 5] (fun bv iv wr => ∃ (k : Nat) (A1 : Option Addr) (n1 c1 : Nat), k ≤ 4 ∧ iv = .int .i64 (k : Int) ∧ bv = .slice A1 n1 c1 ∧ Step nowhere w wr ∧ HO wr 5 1 A1 n1 c1 (bs (encAll [1, v, e0] ++ keysE (K.take k))) ∧ NewA w A1 ∧ OffB (rowOf A1) zt ∧ n1 ≤ 27 + 32018 * k ∧ Hid (n1 = (encAll [1, v, e0] ++ keysE (K.take k)).length) ∧ HB wr zt 45 (rtL v e0 K).toArray) (fun _ iv _ => 4 - (intOf iv).toNat)
    case atStart => exact ⟨0, A6, n6, c6, Nat.zero_le _, rfl, rfl, stepN, ho6, hA6, os, by omega, HN6, ht6⟩
    case round =>
      clear ho6 hA6 os hn6 ht6 st6 n5 HN6 hsz6 hl5
      obtain ⟨k, A1, n1, c1, hk, rfl, rfl, _, hO, hA1, os, hn1, HN1, ht⟩ := hrel
      have st : Step nowhere w wr := inferInstance
      have nr : Nw w wr := ⟨st.chg⟩
      by_cases hlt : k < 4
      · have hltI : (k : Int) < 4 := by omega
        have hkl : k < K.length := by rw [H4.out]; exact hlt
        have hki := KIn.nw (w := wr) (gtK_in HK.out k hkl)
        have hrk : HR wr (gt K k).A (cellsOf (gt K k).l) := ⟨hki.rd⟩
        have HKI := Lib.hid hki
        have HTK : Hid (encAll [1, v, e0] ++ keysE (K.take k) ++ keyB (gt K k).l (gt K k).need = encAll [1, v, e0] ++ keysE (K.take (k + 1))) := Lib.hid (by rw [keysE_take K k hkl, List.append_assoc])
        clear hki
        go_wp2_with (first | ((with_reducible apply (wpl_indexRK (i := k) (m := 4))); (exact rfl); (exact rfl); (exact Tryz.underlying43); (kernel_rfl); (exact hlt)) | ((with_reducible apply (wpl_loadRK (i := k))); (exact rfl); (exact ht); infer_instance; (exact hkl)))
        refine (rKeys_calls (l := (gt K k).l) (gt K k).need HKI.out.len HKI.out.le).mono ?_
        rintro e w7 ⟨A7, n7, c7, rfl, _, hO7, hA7, hn7⟩
        have hkle := HKI.out.le
        have hr7 : HR w7 A7 (bs (keyB (gt K k).l (gt K k).need)) := ⟨hO7.out.rd⟩
        have hl7 : (keyB (gt K k).l (gt K k).need).length = n7 := by
          have h9 := hO7.out.len
          rw [bs_length] at h9
          omega
        clear hO7
        go_wp2_with (first | ((with_reducible apply wpl_appendB); (exact rfl); (exact rfl); infer_instance; (first | exact inferInstance | exact ⟨Own.nil _ _ _⟩); infer_instance; (first | (with_reducible assumption) | (with_reducible exact H32.len _) | (focus (simp; done)) | omega); (first | (with_reducible assumption) | omega); intro A' c' wa _ _ _ hcap))
        refine ⟨⟨k + 1, A', n1 + n7, c', by omega, by go_num, rfl, stepN, ?_, inferInstance, inferInstance, by omega, Lib.hid ?_, inferInstance⟩, by simp [intOf]; omega⟩
        · rw [← HTK.out]
          infer_instance
        · rw [← HTK.out, List.length_append, ← HN1.out, hl7]
      · have hltI : ¬ (k : Int) < 4 := by omega
        have hk4 : k = 4 := by omega
        have hfin : K.take k = K := List.take_of_length_le (by rw [H4.out]; omega)
        rw [hfin] at hO HN1
        clear hk4 hfin
        go_wp2_with fail
        go_ret2
        exact ⟨stepN, A1, n1, c1, rfl, by have h9 := HN1.out; simpa using h9, hO, hA1⟩
end Go.Proofs.YthcleccofccbdaaGreat
