/- RoC, RoE, RoD -/
import Derived.Test.YthcleccofccbdaaGreatTbRoR
section
open Go Go.RowKit
namespace Go.Proofs.YthcleccofccbdaaGreat
instance cellFKeysB : CellT Tryz.prog 107 := ⟨fun _ => by kernel_rfl, fun _ => by kernel_rfl⟩
instance cellFKeys : CellT Tryz.prog 183 := ⟨fun _ => by kernel_rfl, fun _ => by kernel_rfl⟩
instance zeroKeys : ZeroT Tryz.prog 42 #[.slice none 0 0, .int .i64 0] := ⟨.agg #[.slice none 0 0, .int .i64 0], fun _ => by kernel_rfl, rfl⟩
/-- the blocks that keys' rows lie in -/
def usedK (K : List KR) : Nat → Prop := fun x => ∃ k ∈ K, inRow k.A k.l x
def keyOk (k : KR) : Bool := isB k.l k.need
set_option maxRecDepth 100000 in
set_option maxHeartbeats 1600000 in
theorem notKeys_calls (k : KR) {w : World} {zi : Nat} {t : TypeId} [hz : HB w zi t #[.func (.func 121) #[] #[]]] (hk : KIn w k) :
    Calls Tryz.prog 159 #[.agg (RowC.enc k).toArray, .pointer (some ⟨zi, 0, none⟩)] w fun e w' => e = .returned (.bool (!keyOk k)) ∧ Step nowhere w w' := by
  have HK := Lib.hid hk
  clear hk
  have hsz : (RowC.enc k).toArray.size = 2 := rfl
  go_enter Tryz.func159, Tryz.ntmps159
  go_wp2_with (first | ((with_reducible apply (wpl_box_agg (dst := some 2))); (exact rfl); intro zk wzk _ _ _) | ((with_reducible apply wpl_loadrow); (exact rfl); infer_instance; infer_instance; (first | (with_reducible assumption) | (with_reducible exact H32.size _) | (with_reducible exact enc_sz _ rfl) | kernel_rfl)) | ((with_reducible apply wpl_loadcellN); (exact rfl); infer_instance; (exact rfl)))
  have hr5 : HR wzk k.A (cellsOf k.l) := ⟨HK.out.rd.later (stepN (w0 := w)).chg⟩
  refine (wIsKeys_calls (l := k.l) k.need HK.out.len HK.out.cap (Nat.le_trans HK.out.le (by decide))).mono ?_
  rintro e w5 ⟨rfl, _⟩
  go_wp2_with fail
  go_ret
  exact ⟨rfl, stepN⟩
set_option maxRecDepth 100000 in
set_option maxHeartbeats 1600000 in
theorem idxK_calls {A : Option Addr} {n c zi : Nat} {t : TypeId} {K : List KR} {w : World} [hr : HR w A (cellsOf K)] [hz : HB w zi t #[.func (.func 121) #[] #[]]] (hK : ∀ k ∈ K, KIn w k) (hl : K.length = n) (hmax : n ≤ 1000000000) :
    Calls Tryz.prog 184 #[.slice A n c, .func (.func 159) #[] #[.pointer (some ⟨zi, 0, none⟩)]] w fun e w' => ∃ r : Int, e = .returned (.int .i64 r) ∧ (0 ≤ r ↔ K.any (fun k => !keyOk k) = true) ∧ Step nowhere w w' := by
  have HL := Lib.hid hl
  have HMI := Lib.hid hK
  obtain ⟨R, hR⟩ : ∃ R, R = K.any (fun k => !keyOk k) := ⟨_, rfl⟩
  rw [← hR]
  have HRR := Lib.hid hR
  clear hK hR
  go_enter Tryz.func184, Tryz.ntmps184
  go_wp2_with fail
  go_loopw [8] (fun kv wr => ∃ k : Nat, k ≤ n ∧ kv = .int .i64 (k : Int) ∧ Hid ((K.take k).any (fun k => !keyOk k) = false) ∧ Step nowhere w wr) (fun kv _ => n - (intOf kv).toNat)
  case atStart => exact ⟨0, Nat.zero_le _, rfl, Lib.hid rfl, stepN⟩
  case round =>
    obtain ⟨k, hk, rfl, HJ, _⟩ := hrel
    by_cases hlt : k < n
    · have hltI : (k : Int) < n := by omega
      have hkl : k < K.length := by omega
      have hmem : gt K k ∈ K := gt_mem K k hkl
      have HMK : Hid (KIn w (gt K k)) := Lib.hid (HMI.out _ hmem)
      have hts : (K.take (k + 1)).any (fun k => !keyOk k) = ((K.take k).any (fun k => !keyOk k) || !keyOk (gt K k)) := by
        rw [← List.take_append_getElem hkl, List.any_append]
        simp [gt, List.getD_eq_getElem?_getD, hkl]
      obtain ⟨V, hV⟩ : ∃ V, V = keyOk (gt K k) := ⟨_, rfl⟩
      rw [HJ.out, Bool.false_or, ← hV] at hts
      have HV := Lib.hid hV
      have HTS := Lib.hid hts
      have HAL : Hid (V = false → R = true) := Lib.hid (fun h => by rw [HRR.out]; exact List.any_eq_true.2 ⟨_, hmem, by rw [← hV, h]; rfl⟩)
      clear hmem hts hV
      go_wp2_with (first | ((with_reducible apply (wpl_indexE (α := KR) (t := 106))); (exact rfl); (exact rfl); infer_instance; infer_instance; (first | (with_reducible assumption) | omega | (focus (simp; done)) | (focus (simp; omega; done)) | decide); (exact rfl); (decide); (first | (with_reducible assumption) | omega | (focus (simp; done)) | (focus (simp; omega; done)) | decide)) | ((with_reducible apply (wpl_loadE (α := KR) (t := 42))); infer_instance; (exact rfl); infer_instance; (exact rfl); (decide); (first | (with_reducible assumption) | omega | (focus (simp; done)) | (focus (simp; omega; done)) | decide)))
      refine (notKeys_calls (gt K k) (KIn.nw HMK.out)).mono ?_
      rw [← HV.out]
      rintro e w1 ⟨rfl, _⟩
      cases V with
      | false =>
        have HAR : Hid (R = true) := Lib.hid (HAL.out rfl)
        clear HAL
        go_wp2_with fail
        go_ret
        exact ⟨_, rfl, ⟨fun _ => HAR.out, fun _ => by omega⟩, stepN⟩
      | true =>
        go_wp2_with fail
        exact ⟨⟨k + 1, by omega, by go_num, HTS, stepN⟩, by simp [intOf]; omega⟩
    · have hltI : ¬ (k : Int) < n := by omega
      have HF : Hid (R = false) := Lib.hid (by
        have h1 := HJ.out
        rw [HRR.out]
        rwa [List.take_of_length_le (by omega)] at h1)
      go_wp2_with fail
      go_ret
      refine ⟨_, rfl, ⟨fun h => by simp at h, fun h => ?_⟩, stepN⟩
      rw [HF.out] at h
      cases h
set_option maxRecDepth 100000 in
set_option maxHeartbeats 1600000 in
theorem contK_calls {A : Option Addr} {n c zi : Nat} {t : TypeId} {K : List KR} {w : World} [hr : HR w A (cellsOf K)] [hz : HB w zi t #[.func (.func 121) #[] #[]]] (hK : ∀ k ∈ K, KIn w k) (hl : K.length = n) (hmax : n ≤ 1000000000) :
    Calls Tryz.prog 158 #[.slice A n c, .func (.func 159) #[] #[.pointer (some ⟨zi, 0, none⟩)]] w fun e w' => e = .returned (.bool (K.any (fun k => !keyOk k))) ∧ Step nowhere w w' := by
  have HMI := Lib.hid hK
  clear hK
  go_enter Tryz.func158, Tryz.ntmps158
  go_wp2_with fail
  refine (idxK_calls (K := K) (fun r hr => HMI.out r hr) hl hmax).mono ?_
  rintro e w1 ⟨r, rfl, hr, _⟩
  have hd : decide (0 ≤ r) = K.any (fun k => !keyOk k) := by rw [Bool.eq_iff_iff, decide_eq_true_eq]; exact hr
  have HD := Lib.hid hd
  clear hd hr
  go_wp2_with fail
  go_ret
  refine ⟨?_, stepN⟩
  rw [← HD.out]
  rfl
set_option maxRecDepth 100000 in
set_option maxHeartbeats 1600000 in
theorem allK_calls {A : Option Addr} {n c : Nat} {K : List KR} {w : World} [hr : HR w A (cellsOf K)] (hK : ∀ k ∈ K, KIn w k) (hl : K.length = n) (hmax : n ≤ 1000000000) :
    Calls Tryz.prog 120 #[.slice A n c, .func (.func 121) #[] #[]] w fun e w' => e = .returned (.bool (K.all keyOk)) ∧ Step nowhere w w' := by
  have HMI := Lib.hid hK
  have hd : (!K.any (fun k => !keyOk k)) = K.all keyOk := by simp [List.all_eq_not_any_not]
  have HD := Lib.hid hd
  clear hK hd
  go_enter Tryz.func120, Tryz.ntmps120
  go_wp2_with (first | ((with_reducible apply (wpl_box (dst := some 3) (cs := #[.func (.func 121) #[] #[]]))); (exact rfl); (exact rfl); intro bl wbl _ _ _))
  refine (contK_calls (K := K) (fun k hk => KIn.nw (w0 := w) (HMI.out k hk)) hl hmax).mono ?_
  rintro e w5 ⟨rfl, _⟩
  go_wp2_with fail
  go_ret
  refine ⟨?_, stepN⟩
  rw [← HD.out]
  rfl
def rootOk (v e : Int) (K : List KR) : Bool := verB v && numB e && K.all keyOk
set_option maxRecDepth 100000 in
set_option maxHeartbeats 1600000 in
theorem isRoot_calls (v e0 : Int) (K : List KR) (h4 : K.length = 4) {w : World} (hK : ∀ k ∈ K, KIn w k) :
    Calls Tryz.prog 56 #[.agg (rtL v e0 K).toArray] w fun e w' => e = .returned (.bool (rootOk v e0 K)) ∧ Step nowhere w w' := by
  have HK := Lib.hid hK
  have H4 := Lib.hid h4
  have hlen := rtL_len v e0 K h4
  have hone := rtL_one v e0 K
  clear hK h4
  unfold rootOk
  rcases h1 : verB v with _ | _
  · rw [Bool.false_and, Bool.false_and]
    go_enter Tryz.func56, Tryz.ntmps56
    go_wp2_with (first | ((with_reducible apply (wpl_box_agg (dst := some 1))); (exact rfl); intro zt wzt _ _ _) | ((with_reducible apply wpl_loadcellN); (exact rfl); infer_instance; (exact rfl)))
    refine (version_calls v _).mono ?_
    rw [h1]
    rintro e w5 ⟨rfl, _⟩
    go_wp2_with (first | go_skip)
    go_ret
    exact ⟨rfl, stepN⟩
  · rcases h2 : numB e0 with _ | _
    · rw [Bool.true_and, Bool.false_and]
      go_enter Tryz.func56, Tryz.ntmps56
      go_wp2_with (first | ((with_reducible apply (wpl_box_agg (dst := some 1))); (exact rfl); intro zt wzt _ _ _) | ((with_reducible apply wpl_loadcellN); (exact rfl); infer_instance; (exact rfl)))
      refine (version_calls v _).mono ?_
      rw [h1]
      rintro e w5 ⟨rfl, _⟩
      go_wp2_with (first | ((with_reducible apply (wpl_guard (op := .load _ _))); (exact rfl)) | ((with_reducible apply (wpl_guard (op := .fieldAddr _ _ _))); (exact rfl)) | ((with_reducible apply wpl_loadcellN); (exact rfl); infer_instance; (exact rfl)))
      refine (number_calls e0 _).mono ?_
      rw [h2]
      rintro e w6 ⟨rfl, _⟩
      go_wp2_with (first | go_skip)
      go_ret
      exact ⟨rfl, stepN⟩
    · rw [Bool.true_and, Bool.true_and]
      go_enter Tryz.func56, Tryz.ntmps56
      go_wp2_with (first | ((with_reducible apply (wpl_box_agg (dst := some 1))); (exact rfl); intro zt wzt _ _ _) | ((with_reducible apply wpl_loadcellN); (exact rfl); infer_instance; (exact rfl)))
      refine (version_calls v _).mono ?_
      rw [h1]
      rintro e w5 ⟨rfl, _⟩
      go_wp2_with (first | ((with_reducible apply (wpl_guard (op := .load _ _))); (exact rfl)) | ((with_reducible apply (wpl_guard (op := .fieldAddr _ _ _))); (exact rfl)) | ((with_reducible apply wpl_loadcellN); (exact rfl); infer_instance; (exact rfl)))
      refine (number_calls e0 _).mono ?_
      rw [h2]
      rintro e w6 ⟨rfl, _⟩
      have ht6 : HB w6 zt 45 (rtL v e0 K).toArray := inferInstance
      have hr6 : HR w6 (some ⟨zt, 2, none⟩) (cellsOf K) := root_tail ht6
      go_wp2_with (first | ((with_reducible apply wpl_sl_arrS); (exact rfl); (exact Tryz.underlying43); (kernel_rfl)) | ((with_reducible apply (wpl_guard (op := .slice _ _ none none none))); (exact rfl)) | ((with_reducible apply (wpl_guard (op := .fieldAddr _ _ _))); (exact rfl)))
      refine (allK_calls (K := K) (fun k hk => KIn.nw (w0 := w) (HK.out k hk)) H4.out (by decide)).mono ?_
      rintro e w7 ⟨rfl, _⟩
      go_wp2_with fail
      go_ret
      exact ⟨rfl, stepN⟩
/-- keys' bytes -/
def keysE (K : List KR) : List UInt8 := K.flatMap fun k => keyB k.l k.need
end Go.Proofs.YthcleccofccbdaaGreat
end
section
open Go Go.RowKit
namespace Go.Proofs.YthcleccofccbdaaGreat
/-- one digest as a slice of its own -/
theorem run_oneHW (hh : H32) (w : World) : (Instr.buildSlice 40 1 #[(0, .agg (u8s hh.l))]).run Tryz.prog w = .ok (.slice (some ⟨w.heap.size, 0, none⟩) 1 1) (w.alloc (.cells (u8s hh.l) 47)) := by
  have hs := hh.size
  have hz : ∀ w, (zeroValue 47).run Tryz.prog w = .ok (.agg (u8s zeroH.l)) w := fun _ => by kernel_rfl
  have hi : ∀ w, (sizeOf 47).run Tryz.prog w = .ok 32 w := fun _ => by kernel_rfl
  unfold Instr.buildSlice
  simp only [Sem.run_bind, run_underlying Tryz.underlying40, Result.andThen_ok, hi]
  have hf : Instr.fill (fun i => some (i * 32, 32)) ((Array.range (1 * 32)).map ((u8s zeroH.l)[· % (u8s zeroH.l).size]!)) [(0, Value.agg (u8s hh.l))] = some (u8s hh.l) := by
    rw [fill_step _ _ 0 (.agg (u8s hh.l)) [] (off := 0) (size := 32) rfl hs (by simp), lay_whole _ _ (by show (u8s hh.l).size = _; rw [hs]; simp)]
    rfl
  simp [hz, Value.cells, hf, newRow]
theorem RdrAt.far {S : Nat → Prop} {w w' : World} {g d : Nat} {s : RS} {m : Nat} (h : RdrAt w g d s) (hc : Chg S w w') (hS : ∀ x, S x → m ≤ x) (hg : g < m) (hd : s.b ≠ [] → d < m) : RdrAt w' g d s :=
  h.chg2 hc (fun e => by have := hS _ e; omega) (fun hne e => by have := hS _ e; have := hd hne; omega)
theorem hS_ne {s : RS} {k : Nat} (h : (hS s k).b ≠ []) : s.b ≠ [] := fun h0 => by
  have h1 := hS_le s k
  rw [h0] at h1
  exact h (List.eq_nil_of_length_eq_zero (by simpa using h1))
theorem num_ne {s : RS} (h : s.num.2.b ≠ []) : s.b ≠ [] := fun h0 => by
  have h1 := RS.num_le s
  rw [h0] at h1
  exact h (List.eq_nil_of_length_eq_zero (by simpa using h1))
theorem newA_grew {w0 w : World} {A A' : Option Addr} (g : Grew w A A') (h : NewA w0 A) (s : w0.heap.size ≤ w.heap.size) : NewA w0 A' := ⟨fun ad e => by
  rcases g.out with k | k
  · exact h.out ad (by rw [← k]; exact e)
  · rw [k] at e
    injection e with e
    subst e
    exact s⟩
theorem newA_none (w : World) : NewA w none := ⟨fun ad e => by cases e⟩
set_option maxRecDepth 100000 in
set_option maxHeartbeats 3200000 in
theorem takenH_calls {g d : Nat} {s : RS} {w : World} (hw : RdrAt w g d s) (hl : s.b.length ≤ 140737488351232) :
    Calls Tryz.prog 163 #[.pointer (some ⟨g, 0, none⟩), .int .i64 4, .func (.func 125) #[] #[]] w fun e w' => ∃ A n c, e = .returned (.slice A n c) ∧ Step (only g) w w' ∧ Hid (RdrAt w' g d (kM s)) ∧ HR w' A (cellsOf (kL s)) ∧ NewA w A ∧ Hid ((kL s).length = n ∧ n ≤ c ∧ n ≤ 1000) := by
  have HW0 := Lib.hid hw
  have HL := Lib.hid hl
  have hgl := hw.lt
  have hdl := hw.dlt
  obtain ⟨N, hN⟩ : ∃ N, N = s.num.1 := ⟨_, rfl⟩
  obtain ⟨S, hS1⟩ : ∃ S, S = s.num.2 := ⟨_, rfl⟩
  have HN := Lib.hid hN
  have HS := Lib.hid hS1
  have hSl : S.b.length ≤ 140737488351232 := by rw [hS1]; exact Nat.le_trans (RS.num_le s) hl
  have hSd : S.b ≠ [] → d < w.heap.size := fun h => hdl (num_ne (by rw [← hS1]; exact h))
  clear hw hl hN hS1
  go_enter Tryz.func163, Tryz.ntmps163
  go_wp2_with fail
  refine (Num_calls g d s w HW0.out (by have := HL.out; omega)).mono ?_
  rw [← HN.out, ← HS.out]
  rintro e w2 ⟨rfl, h2, c2⟩
  have st2 : Step (only g) w w2 := ⟨c2.out⟩
  clear c2
  by_cases h4 : 4 < N
  · have h4I : 4 < (N : Int) := by omega
    have HKM : Hid (kM s = RS.bad) := Lib.hid (by rw [kM, if_pos (by rw [← HN.out]; exact h4)])
    have HKL : Hid (kL s = []) := Lib.hid (by rw [kL, if_pos (by rw [← HN.out]; exact h4)])
    go_wp2_with fail
    refine (Bad_calls g d _ _ h2.out).mono ?_
    rintro e w3 ⟨rfl, h3, c3⟩
    have st3 : Step (only g) w2 w3 := ⟨c3.out⟩
    go_wp2_with fail
    go_ret
    refine ⟨none, 0, 0, rfl, ⟨st2.chg.trans st3.chg (fun _ _ h => h)⟩, ?_, ?_, newA_none _, Lib.hid ⟨?_, Nat.le_refl _, by decide⟩⟩
    · rw [HKM.out]; exact h3
    · rw [HKL.out]; infer_instance
    · rw [HKL.out]; rfl
  · have h4I : ¬ 4 < (N : Int) := by omega
    have HKM : Hid (kM s = hS S N) := Lib.hid (by rw [kM, if_neg (by rw [← HN.out]; exact h4), ← HN.out, ← HS.out])
    have HKL : Hid (kL s = hN S N) := Lib.hid (by rw [kL, if_neg (by rw [← HN.out]; exact h4), ← HN.out, ← HS.out])
    have hcell0 : HO w2 47 32 none 0 0 (cellsOf ([] : List H32)) := ⟨Own.nil _ _ _⟩
    go_wp2_with fail
    go_loopw [8, 17] (fun lv iv wr => ∃ (k : Nat) (A1 : Option Addr) (c1 : Nat), k ≤ N ∧ iv = .int .i64 (k : Int) ∧ lv = .slice A1 k c1 ∧ k ≤ c1 ∧ Step (only g) w wr ∧ HO wr 47 32 A1 k c1 (cellsOf (hN S k)) ∧ NewA w A1 ∧ Hid (RdrAt wr g d (hS S k))) (fun _ iv _ => N - (intOf iv).toNat)
    case atStart => exact ⟨0, none, 0, Nat.zero_le _, rfl, rfl, Nat.le_refl _, st2, hcell0, newA_none _, h2⟩
    case round =>
      clear st2 h2 hcell0
      obtain ⟨k, A1, c1, hk, rfl, rfl, hkc, st, hO, hA1, hR⟩ := hrel
      by_cases hlt : k < N
      · have hltI : (k : Int) < N := by omega
        have og : OffA (only g) A1 := ⟨fun ad e h => by have h' : ad.block = g := h; have := hA1.out ad e; omega⟩
        have hsl := hS_le S k
        have kbH := run_oneHW (hS S k).hsh
        go_wp2_with fail
        refine (takeHash_calls hR.out (by omega)).mono ?_
        rintro e w5 ⟨rfl, st5, h5⟩
        have H5 := Lib.hid h5
        have HNX : Hid (hN S k ++ [(hS S k).hsh] = hN S (k + 1)) := Lib.hid rfl
        have n5w : SzLe w w5 := inferInstance
        clear h5
        go_wp2_with (first | ((with_reducible apply (stop_dst (dst := some 23))); (try simp only [Act.put, sA, sB, sC]); ((with_reducible apply (wpl_bslice (dst := some 23))); (exact kbH _); intro zb wb _ _ _)) | ((with_reducible apply wpl_appendH); (exact rfl); (exact rfl); infer_instance; (first | exact inferInstance | exact ⟨Own.nil _ _ _⟩); infer_instance; (first | (with_reducible assumption) | omega); intro A' c' wa _ _ _ hcap))
        have hcA : Chg (rowOf A1) w5 wa := (inferInstance : Ch (rowOf A1) w5 wa).out
        refine ⟨⟨k + 1, A', c', by omega, by go_num, rfl, hcap, ⟨?_⟩, ?_, newA_grew inferInstance hA1 (Nat.le_trans n5w.out (inferInstance : SzLe w5 wb).out), Lib.hid ?_⟩, by simp [intOf]; omega⟩
        · exact (st.chg.trans st5.chg (fun _ _ h => h)).trans hcA (fun x hx ⟨ad, e, h⟩ => by have := hA1.out ad e; omega)
        · rw [← HNX.out]; infer_instance
        · exact H5.out.far hcA (m := w.heap.size) (fun x ⟨ad, e, h⟩ => by rw [← h]; exact hA1.out ad e) hgl (fun h => hSd (hS_ne (k := k + 1) h))
      · have hltI : ¬ (k : Int) < N := by omega
        have hkn : k = N := by omega
        subst hkn
        have HRR := hR
        go_wp2_with fail
        go_ret
        refine ⟨A1, k, c1, rfl, st, ?_, ?_, hA1, Lib.hid ⟨?_, hkc, by omega⟩⟩
        · rw [HKM.out]; exact HRR
        · rw [HKL.out]; exact ⟨hO.out.rd⟩
        · rw [HKL.out, hN_len]
end Go.Proofs.YthcleccofccbdaaGreat
end
section
open Go Go.RowKit
namespace Go.Proofs.YthcleccofccbdaaGreat
theorem keysE_eq (K : List KR) : keysB (K.map KR.m) = keysE K := by
  rw [keysB, keysE, List.flatMap_map]
  rfl
end Go.Proofs.YthcleccofccbdaaGreat
end
