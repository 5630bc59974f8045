/- TgH -/
import Derived.Test.YtgjnjhhhbkidbaaGreatUdTgE
import Derived.Test.YtgjnjhhhbkidbaaGreatUdEnG
import Derived.Test.YtgjnjhhhbkidbaaGreatUdKyQ
open Go Go.RowKit
namespace Go.Proofs.YtgjnjhhhbkidbaaGreat
def DIn (w : World) (d : DeleR) : Prop := KIn w d.k
theorem DIn.nw {w0 w : World} [n : Nw w0 w] {d : DeleR} (h : DIn w0 d) : DIn w d := KIn.nw (w0 := w0) h
structure DInW (w : World) (d : DeleR) : Prop where
  rd : Rd w d.k.A (cellsOf d.k.l)
  len : d.k.l.length = d.k.n
  cap : d.k.n ≤ d.k.c
  le : d.k.n ≤ 4398046511104
theorem DInW.nw {w0 w : World} [n : Nw w0 w] {d : DeleR} (h : DInW w0 d) : DInW w d := ⟨h.rd.chg n.out (fun _ _ _ h => h), h.len, h.cap, h.le⟩
theorem DIn.w {w : World} {d : DeleR} (h : DIn w d) : DInW w d := ⟨KIn.rd h, KIn.len h, KIn.cap h, Nat.le_trans (KIn.le h) (by decide)⟩
def dlOk (d : DeleR) : Bool := nameL d.l && isB d.k.l d.k.need && nameE d.pre
def flagE (b : Bool) : List UInt8 := encAll [if b then 1 else 0]
def dlE (d : DeleR) : List UInt8 := encRow d.l ++ (keyB d.k.l d.k.need ++ (encRow d.pre ++ flagE d.last))
theorem dl_keys (d : DeleR) : ((RowC.enc d).toArray.toList.drop 1).take 2 = [.slice d.k.A d.k.n d.k.c, .int .i64 d.k.need] := rfl
set_option maxRecDepth 100000 in
set_option maxHeartbeats 1600000 in
theorem isDele_calls (d : DeleR) {w : World} (hd : DInW w d) :
    Calls Tryz.prog 117 #[.agg (RowC.enc d).toArray] w fun e w' => e = .returned (.bool (dlOk d)) ∧ Step nowhere w w' := by
  have HD := Lib.hid hd
  clear hd
  have hsz : (RowC.enc d).toArray.size = 5 := rfl
  have hon := enc_one d
  obtain ⟨R, hR⟩ : ∃ R, R = dlOk d := ⟨_, rfl⟩
  have HR0 : Hid (R = (nameL d.l && isB d.k.l d.k.need && nameE d.pre)) := Lib.hid hR
  rw [← hR]
  clear hR
  cases h0 : nameL d.l
  case false =>
    have HF : Hid (R = false) := Lib.hid (by rw [HR0.out, h0]; simp)
    go_enter Tryz.func117, Tryz.ntmps117
    go_wp2_with (first | ((with_reducible apply (wpl_box_agg (dst := some 1))); (exact rfl); intro zt wzt _ _ _) | ((with_reducible apply wpl_loadcellN); (exact rfl); infer_instance; (exact rfl)))
    refine (wname_calls (strL d.l) d.l rfl _).mono ?_
    rw [h0]
    rintro e w5 ⟨rfl, _⟩
    go_wp2_with (first | go_skip)
    go_ret
    rw [HF.out]
    exact ⟨rfl, stepN⟩
  cases h1 : isB d.k.l d.k.need
  case false =>
    have HF : Hid (R = false) := Lib.hid (by rw [HR0.out, h1]; simp)
    go_enter Tryz.func117, Tryz.ntmps117
    go_wp2_with (first | ((with_reducible apply (wpl_box_agg (dst := some 1))); (exact rfl); intro zt wzt _ _ _) | ((with_reducible apply wpl_loadcellN); (exact rfl); infer_instance; (exact rfl)))
    refine (wname_calls (strL d.l) d.l rfl _).mono ?_
    rw [h0]
    rintro e w5 ⟨rfl, _⟩
    go_wp2_with (first | ((with_reducible apply (wpl_loadpart (g := zt) (k := 1) (n := 2) (tb := 115) (cs := (RowC.enc d).toArray) (vs := [.slice d.k.A d.k.n d.k.c, .int .i64 d.k.need]))); (exact rfl); infer_instance; infer_instance; (exact (by decide)); (exact rfl); (exact rfl)) | ((with_reducible apply (wpl_guard (op := .load _ _))); (exact rfl)) | ((with_reducible apply (wpl_guard (op := .fieldAddr _ _ _))); (exact rfl)))
    have hr5 : HR w5 d.k.A (cellsOf d.k.l) := ⟨HD.out.rd.later (stepN (w0 := w)).chg⟩
    refine (wIsKeys_calls (l := d.k.l) d.k.need HD.out.len HD.out.cap HD.out.le).mono ?_
    rw [h1]
    rintro e w6 ⟨rfl, _⟩
    go_wp2_with (first | go_skip)
    go_ret
    rw [HF.out]
    exact ⟨rfl, stepN⟩
  have HF : Hid (R = nameE d.pre) := Lib.hid (by rw [HR0.out, h0, h1]; simp)
  clear HR0
  go_enter Tryz.func117, Tryz.ntmps117
  go_wp2_with (first | ((with_reducible apply (wpl_box_agg (dst := some 1))); (exact rfl); intro zt wzt _ _ _) | ((with_reducible apply wpl_loadcellN); (exact rfl); infer_instance; (exact rfl)))
  refine (wname_calls (strL d.l) d.l rfl _).mono ?_
  rw [h0]
  rintro e w5 ⟨rfl, _⟩
  go_wp2_with (first | ((with_reducible apply (wpl_loadpart (g := zt) (k := 1) (n := 2) (tb := 115) (cs := (RowC.enc d).toArray) (vs := [.slice d.k.A d.k.n d.k.c, .int .i64 d.k.need]))); (exact rfl); infer_instance; infer_instance; (exact (by decide)); (exact rfl); (exact rfl)) | ((with_reducible apply (wpl_guard (op := .load _ _))); (exact rfl)) | ((with_reducible apply (wpl_guard (op := .fieldAddr _ _ _))); (exact rfl)))
  have hr5 : HR w5 d.k.A (cellsOf d.k.l) := ⟨HD.out.rd.later (stepN (w0 := w)).chg⟩
  refine (wIsKeys_calls (l := d.k.l) d.k.need HD.out.len HD.out.cap HD.out.le).mono ?_
  rw [h1]
  rintro e w6 ⟨rfl, _⟩
  go_wp2_with (first | ((with_reducible apply (wpl_guard (op := .load _ _))); (exact rfl)) | ((with_reducible apply (wpl_guard (op := .fieldAddr _ _ _))); (exact rfl)) | ((with_reducible apply wpl_loadcellN); (exact rfl); infer_instance; (exact rfl)))
  refine (nameE_calls (strL d.pre) d.pre rfl _).mono ?_
  rintro e w7 ⟨rfl, _⟩
  go_wp2_with fail
  go_ret
  rw [HF.out]
  exact ⟨rfl, stepN⟩
set_option maxRecDepth 100000 in
set_option maxHeartbeats 1600000 in
theorem notDl_calls (k : DeleR) {w : World} {zi : Nat} {t : TypeId} [hz : HB w zi t #[.func (.func 117) #[] #[]]] (hk : DInW w k) :
    Calls Tryz.prog 165 #[.agg (RowC.enc k).toArray, .pointer (some ⟨zi, 0, none⟩)] w fun e w' => e = .returned (.bool (!dlOk k)) ∧ Step nowhere w w' := by
  have HK := Lib.hid hk
  clear hk
  have hsz : (RowC.enc k).toArray.size = 5 := rfl
  have hon := enc_one k
  go_enter Tryz.func165, Tryz.ntmps165
  go_wp2_with (first | ((with_reducible apply (wpl_box_agg (dst := some 2))); (exact rfl); intro zk wzk _ _ _) | ((with_reducible apply wpl_loadrow); (exact rfl); infer_instance; infer_instance; (first | (with_reducible assumption) | (with_reducible exact H32.size _) | (with_reducible exact enc_sz _ rfl) | kernel_rfl)) | ((with_reducible apply wpl_loadcellN); (exact rfl); infer_instance; (exact rfl)))
  refine (isDele_calls k (DInW.nw (w0 := w) HK.out)).mono ?_
  rintro e w5 ⟨rfl, _⟩
  go_wp2_with fail
  go_ret
  exact ⟨rfl, stepN⟩
set_option maxRecDepth 100000 in
set_option maxHeartbeats 1600000 in
theorem idxDl_calls {A : Option Addr} {n c zi : Nat} {t : TypeId} {K : List DeleR} {w : World} [hr : HR w A (cellsOf K)] [hz : HB w zi t #[.func (.func 117) #[] #[]]] (hK : ∀ k ∈ K, DInW w k) (hl : K.length = n) (hmax : n ≤ 1000000000) :
    Calls Tryz.prog 188 #[.slice A n c, .func (.func 165) #[] #[.pointer (some ⟨zi, 0, none⟩)]] w fun e w' => ∃ r : Int, e = .returned (.int .i64 r) ∧ (0 ≤ r ↔ K.any (fun k => !dlOk k) = true) ∧ Step nowhere w w' := by
  have HL := Lib.hid hl
  have HMI := Lib.hid hK
  obtain ⟨R, hR⟩ : ∃ R, R = K.any (fun k => !dlOk k) := ⟨_, rfl⟩
  rw [← hR]
  have HRR := Lib.hid hR
  clear hK hR
  go_enter Tryz.func188, Tryz.ntmps188
  go_wp2_with fail
  go_loopw [8] (fun kv wr => ∃ k : Nat, k ≤ n ∧ kv = .int .i64 (k : Int) ∧ Hid ((K.take k).any (fun k => !dlOk k) = false) ∧ Step nowhere w wr) (fun kv _ => n - (intOf kv).toNat)
  case atStart => exact ⟨0, Nat.zero_le _, rfl, Lib.hid rfl, stepN⟩
  case round =>
    obtain ⟨k, hk, rfl, HJ, _⟩ := hrel
    by_cases hlt : k < n
    · have hltI : (k : Int) < n := by omega
      have hkl : k < K.length := by omega
      have hmem : gt K k ∈ K := gt_mem K k hkl
      have HMK : Hid (DInW w (gt K k)) := Lib.hid (HMI.out _ hmem)
      have hts : (K.take (k + 1)).any (fun k => !dlOk k) = ((K.take k).any (fun k => !dlOk k) || !dlOk (gt K k)) := by
        rw [← List.take_append_getElem hkl, List.any_append]
        simp [gt, List.getD_eq_getElem?_getD, hkl]
      obtain ⟨V, hV⟩ : ∃ V, V = dlOk (gt K k) := ⟨_, rfl⟩
      rw [HJ.out, Bool.false_or, ← hV] at hts
      have HV := Lib.hid hV
      have HTS := Lib.hid hts
      have HAL : Hid (V = false → R = true) := Lib.hid (fun h => by rw [HRR.out]; exact List.any_eq_true.2 ⟨_, hmem, by rw [← hV, h]; rfl⟩)
      clear hmem hts hV
      go_wp2_with (first | ((with_reducible apply (wpl_indexE (α := DeleR) (t := 62))); (exact rfl); (exact rfl); infer_instance; infer_instance; (first | (with_reducible assumption) | omega | (focus (simp; done)) | (focus (simp; omega; done)) | decide); (exact rfl); (decide); (first | (with_reducible assumption) | omega | (focus (simp; done)) | (focus (simp; omega; done)) | decide)) | ((with_reducible apply (wpl_loadE (α := DeleR) (t := 115))); infer_instance; (exact rfl); infer_instance; (exact rfl); (decide); (first | (with_reducible assumption) | omega | (focus (simp; done)) | (focus (simp; omega; done)) | decide)))
      refine (notDl_calls (gt K k) (DInW.nw HMK.out)).mono ?_
      rw [← HV.out]
      rintro e w1 ⟨rfl, _⟩
      cases V with
      | false =>
        have HAR : Hid (R = true) := Lib.hid (HAL.out rfl)
        clear HAL
        go_wp2_with fail
        go_ret
        exact ⟨_, rfl, ⟨fun _ => HAR.out, fun _ => by omega⟩, stepN⟩
      | true =>
        go_wp2_with fail
        exact ⟨⟨k + 1, by omega, by go_num, HTS, stepN⟩, by simp [intOf]; omega⟩
    · have hltI : ¬ (k : Int) < n := by omega
      have HF : Hid (R = false) := Lib.hid (by
        have h1 := HJ.out
        rw [HRR.out]
        rwa [List.take_of_length_le (by omega)] at h1)
      go_wp2_with fail
      go_ret
      refine ⟨_, rfl, ⟨fun h => by simp at h, fun h => ?_⟩, stepN⟩
      rw [HF.out] at h
      cases h
set_option maxRecDepth 100000 in
set_option maxHeartbeats 1600000 in
theorem contDl_calls {A : Option Addr} {n c zi : Nat} {t : TypeId} {K : List DeleR} {w : World} [hr : HR w A (cellsOf K)] [hz : HB w zi t #[.func (.func 117) #[] #[]]] (hK : ∀ k ∈ K, DInW w k) (hl : K.length = n) (hmax : n ≤ 1000000000) :
    Calls Tryz.prog 164 #[.slice A n c, .func (.func 165) #[] #[.pointer (some ⟨zi, 0, none⟩)]] w fun e w' => e = .returned (.bool (K.any (fun k => !dlOk k))) ∧ Step nowhere w w' := by
  have HMI := Lib.hid hK
  clear hK
  go_enter Tryz.func164, Tryz.ntmps164
  go_wp2_with fail
  refine (idxDl_calls (K := K) (fun r hr => HMI.out r hr) hl hmax).mono ?_
  rintro e w1 ⟨r, rfl, hr, _⟩
  have hd : decide (0 ≤ r) = K.any (fun k => !dlOk k) := by rw [Bool.eq_iff_iff, decide_eq_true_eq]; exact hr
  have HD := Lib.hid hd
  clear hd hr
  go_wp2_with fail
  go_ret
  refine ⟨?_, stepN⟩
  rw [← HD.out]
  rfl
set_option maxRecDepth 100000 in
set_option maxHeartbeats 1600000 in
theorem allDl_calls {A : Option Addr} {n c : Nat} {K : List DeleR} {w : World} [hr : HR w A (cellsOf K)] (hK : ∀ k ∈ K, DInW w k) (hl : K.length = n) (hmax : n ≤ 1000000000) :
    Calls Tryz.prog 116 #[.slice A n c, .func (.func 117) #[] #[]] w fun e w' => e = .returned (.bool (K.all dlOk)) ∧ Step nowhere w w' := by
  have HMI := Lib.hid hK
  have hd : (!K.any (fun k => !dlOk k)) = K.all dlOk := by simp [List.all_eq_not_any_not]
  have HD := Lib.hid hd
  clear hK hd
  go_enter Tryz.func116, Tryz.ntmps116
  go_wp2_with (first | ((with_reducible apply (wpl_box (dst := some 3) (cs := #[.func (.func 117) #[] #[]]))); (exact rfl); (exact rfl); intro bl wbl _ _ _))
  refine (contDl_calls (K := K) (fun k hk => DInW.nw (w0 := w) (HMI.out k hk)) hl hmax).mono ?_
  rintro e w5 ⟨rfl, _⟩
  go_wp2_with fail
  go_ret
  refine ⟨?_, stepN⟩
  rw [← HD.out]
  rfl
set_option maxRecDepth 100000 in
set_option maxHeartbeats 1600000 in
theorem flag_calls (b : Bool) (w : World) :
    Calls Tryz.prog 170 #[.bool b] w (FldPost w (flagE b) nowhere) := by
  unfold FldPost flagE
  cases b
  all_goals
    go_enter Tryz.func170, Tryz.ntmps170
    go_wp2_with (first | ((with_reducible apply wpl_bslice); (exact run_int1 _ _); intro zb wb _ _ _))
  · refine (numsC (z := zb) (vs := [0]) rfl rfl (show 9 * 1 ≤ 1000000000 by decide)).mono ?_
    rintro e w5 ⟨f5, caps5, T5, rfl, _, hL5, hT5⟩
    have hzb : w.heap.size ≤ zb := (NewA.monoS (w0 := w) (NewA.of_born (z := zb) 0)).out ⟨zb, 0, none⟩ rfl
    go_wp2_with fail
    go_ret
    first | refine ⟨f5, caps5, T5, rfl, stepN, hL5, fun x hx => ?_⟩ | refine ⟨f5, caps5, rfl, stepN, T5, hL5, fun x hx => ?_⟩
    rcases hT5 x hx with h | rfl
    · exact .inl (Nat.le_trans (stepN (w0 := w)).chg.size h)
    · exact .inl hzb
  · refine (numsC (z := zb) (vs := [1]) rfl rfl (show 9 * 1 ≤ 1000000000 by decide)).mono ?_
    rintro e w5 ⟨f5, caps5, T5, rfl, _, hL5, hT5⟩
    have hzb : w.heap.size ≤ zb := (NewA.monoS (w0 := w) (NewA.of_born (z := zb) 0)).out ⟨zb, 0, none⟩ rfl
    go_wp2_with fail
    go_ret
    first | refine ⟨f5, caps5, T5, rfl, stepN, hL5, fun x hx => ?_⟩ | refine ⟨f5, caps5, rfl, stepN, T5, hL5, fun x hx => ?_⟩
    rcases hT5 x hx with h | rfl
    · exact .inl (Nat.le_trans (stepN (w0 := w)).chg.size h)
    · exact .inl hzb
set_option maxRecDepth 100000 in
set_option maxHeartbeats 1600000 in
theorem layDele_calls (d : DeleR) {w : World} (hd : DIn w d) :
    Calls Tryz.prog 124 #[.agg (RowC.enc d).toArray] w (FldPost w (dlE d) (inRow d.k.A d.k.l)) := by
  have HD := Lib.hid hd
  clear hd
  have hsz : (RowC.enc d).toArray.size = 5 := rfl
  have hon := enc_one d
  unfold FldPost
  go_enter Tryz.func124, Tryz.ntmps124
  go_wp2_with (first | ((with_reducible apply (wpl_box_agg (dst := some 1))); (exact rfl); intro zt wzt _ _ _))
  have hwz := (stepN (w0 := w) (w := wzt)).chg.size
  refine wp_region_N (nowhere) (by kernel_rfl) (fun wd _ _ => ?_)
  refine' takeH (i := 0) (v := _) rfl (by kernel_rfl) (by kernel_rfl) (by kernel_rfl) (fun _ _ _ h => h) (yields_of (by rfl) (fun w' _ => ?_)) inferInstance ?_
  rotate_left
  · (go_simp; try with_reducible rfl)
  try simp only [Act.put, sA]; try simp only [sB, sC]
  refine' takeH (i := 1) (v := _) rfl (by kernel_rfl) (by kernel_rfl) (by kernel_rfl) (fun _ _ _ h => h) (yields_of (by rfl) (fun w' _ => ?_)) inferInstance ?_
  rotate_left
  · ((with_reducible apply ev_loadcellN); (exact rfl); infer_instance; infer_instance; (exact rfl))
  try simp only [Act.put, sA]; try simp only [sB, sC]
  refine' takeH (i := 3) (v := _) rfl (by kernel_rfl) (by kernel_rfl) (by kernel_rfl) (fun _ _ _ h => h) (yields_of (by rfl) (fun w' _ => ?_)) inferInstance ?_
  rotate_left
  · (go_simp; try with_reducible rfl)
  try simp only [Act.put, sA]; try simp only [sB, sC]
  refine' takeH (i := 4) (v := _) rfl (by kernel_rfl) (by kernel_rfl) (by kernel_rfl) (fun _ _ _ h => h) (yields_of (by rfl) (fun w' _ => ?_)) inferInstance ?_
  rotate_left
  · ((with_reducible apply ev_loadMid); (exact rfl); infer_instance; infer_instance; (exact dl_keys _); (exact rfl); (decide))
  try simp only [Act.put, sA]; try simp only [sB, sC]
  refine' takeH (i := 6) (v := _) rfl (by kernel_rfl) (by kernel_rfl) (by kernel_rfl) (fun _ _ _ h => h) (yields_of (by rfl) (fun w' _ => ?_)) inferInstance ?_
  rotate_left
  · (go_simp; try with_reducible rfl)
  try simp only [Act.put, sA]; try simp only [sB, sC]
  refine' takeH (i := 7) (v := _) rfl (by kernel_rfl) (by kernel_rfl) (by kernel_rfl) (fun _ _ _ h => h) (yields_of (by rfl) (fun w' _ => ?_)) inferInstance ?_
  rotate_left
  · ((with_reducible apply ev_loadcellN); (exact rfl); infer_instance; infer_instance; (exact rfl))
  try simp only [Act.put, sA]; try simp only [sB, sC]
  refine' takeH (i := 9) (v := _) rfl (by kernel_rfl) (by kernel_rfl) (by kernel_rfl) (fun _ _ _ h => h) (yields_of (by rfl) (fun w' _ => ?_)) inferInstance ?_
  rotate_left
  · (go_simp; try with_reducible rfl)
  try simp only [Act.put, sA]; try simp only [sB, sC]
  refine' takeH (i := 10) (v := _) rfl (by kernel_rfl) (by kernel_rfl) (by kernel_rfl) (fun _ _ _ h => h) (yields_of (by rfl) (fun w' _ => ?_)) inferInstance ?_
  rotate_left
  · ((with_reducible apply ev_loadcellN); (exact rfl); infer_instance; infer_instance; (exact rfl))
  try simp only [Act.put, sA]; try simp only [sB, sC]
  refine goH (i := 2) (by kernel_rfl) rfl (fun K_ hK_ => ?_)
  go_simp
  refine (text_calls (strL d.l) d.l rfl _).mono ?_
  rintro e w4 ⟨f4, caps4, T4, rfl, _, hL4, hT4⟩
  refine hK_.out _ _ inferInstance (fun _ => ?_)
  clear hK_ K_
  try simp only [Act.put, sA]; try simp only [sB, sC]
  refine goH (i := 5) (by kernel_rfl) rfl (fun K_ hK_ => ?_)
  go_simp
  refine (layKeys_calls d.k (KIn.chg HD.out (stepN (w0 := w)).chg (fun _ _ h => h))).mono ?_
  rintro e w5 ⟨f5, caps5, T5, rfl, _, hL5, hT5⟩
  refine hK_.out _ _ inferInstance (fun _ => ?_)
  clear hK_ K_
  try simp only [Act.put, sA]; try simp only [sB, sC]
  refine goH (i := 8) (by kernel_rfl) rfl (fun K_ hK_ => ?_)
  go_simp
  refine (text_calls (strL d.pre) d.pre rfl _).mono ?_
  rintro e w6 ⟨f6, caps6, T6, rfl, _, hL6, hT6⟩
  refine hK_.out _ _ inferInstance (fun _ => ?_)
  clear hK_ K_
  try simp only [Act.put, sA]; try simp only [sB, sC]
  refine goH (i := 11) (by kernel_rfl) rfl (fun K_ hK_ => ?_)
  go_simp
  refine (flag_calls d.last _).mono ?_
  rintro e w7 ⟨f7, caps7, T7, rfl, _, hL7, hT7⟩
  refine hK_.out _ _ inferInstance (fun _ => ?_)
  clear hK_ K_
  try simp only [Act.put, sA]; try simp only [sB, sC]
  refine goH (i := 12) (by kernel_rfl) rfl (fun K_ hK_ => ?_)
  rw [if_pos (by kernel_rfl)]
  refine wpr_of_list ?_
  (first | ((with_reducible apply (stop_dst (dst := some 15))); (try simp only [Act.put, sA, sB, sC]); ((with_reducible apply (wpl_bslice (dst := some 15))); (exact run_fld4 _ _ _ _ _ _ _ _ _); intro zc wb _ _ _)))
  refine wpList_nil ?_
  unfold onlyN
  refine hK_.out _ _ inferInstance (fun _ => ?_)
  clear hK_ K_
  try simp only [Act.put, sA]; try simp only [sB, sC]
  refine goH (i := 13) (by kernel_rfl) rfl (fun K_ hK_ => ?_)
  go_simp
  refine (fields4 (z := zc) (hL4.later (stepN (w0 := w4)).chg (fun _ _ h => h)) (hL5.later (stepN (w0 := w5)).chg (fun _ _ h => h)) (hL6.later (stepN (w0 := w6)).chg (fun _ _ h => h)) (hL7.later (stepN (w0 := w7)).chg (fun _ _ h => h))).mono ?_
  rintro e w8 ⟨f8, caps8, T8, rfl, _, hL8, hT8⟩
  have hzc : w.heap.size ≤ zc := (NewA.monoS (w0 := w) (NewA.of_born (z := zc) 0)).out ⟨zc, 0, none⟩ rfl
  refine hK_.out _ _ inferInstance (fun _ => ?_)
  clear hK_ K_
  try simp only [Act.put, sA]; try simp only [sB, sC]
  refine' takeH (i := 14) (v := _) rfl (by kernel_rfl) (by kernel_rfl) (by kernel_rfl) (fun _ _ _ h => h) (yields_of (by rfl) (fun w' _ => ?_)) inferInstance ?_
  rotate_left
  · (go_simp; try with_reducible rfl)
  try simp only [Act.put, sA]; try simp only [sB, sC]
  refine wpAnyH_done (by kernel_rfl) ?_ _
  all_goals
    go_wp2_with fail
    go_ret
    first | refine ⟨f8, caps8, T8, rfl, stepN, hL8, fun x hx => ?_⟩ | refine ⟨f8, caps8, rfl, stepN, T8, hL8, fun x hx => ?_⟩
    rcases hT8 x hx with h | rfl | h | h | h | h
    · exact .inl (Nat.le_trans (stepN (w0 := w)).chg.size h)
    · exact .inl hzc
    · exact .inl (Nat.le_trans (stepN (w0 := w)).chg.size (hT4 x h))
    · rcases hT5 x h with h | h
      · exact .inl (Nat.le_trans (stepN (w0 := w)).chg.size h)
      · exact .inr h
    · exact .inl (Nat.le_trans (stepN (w0 := w)).chg.size (hT6 x h))
    · rcases hT7 x h with h | h
      · exact .inl (Nat.le_trans (stepN (w0 := w)).chg.size h)
      · exact h.elim
end Go.Proofs.YtgjnjhhhbkidbaaGreat
