/- TgH, TgI, TgJ, TgK, TgP, TgQ, TgR, TgS, TgU, FwA -/
import Derived.Test.YtmnapacibpnodaaGreatUeTgE
import Derived.Test.YtmnapacibpnodaaGreatUeSnD
import Derived.Test.YtmnapacibpnodaaGreatUeQmR
import Derived.Test.YtmnapacibpnodaaGreatUeTgN
import Derived.Test.YtmnapacibpnodaaGreatUeRrB
section
open Go Go.RowKit
namespace Go.Proofs.YtmnapacibpnodaaGreat
def DIn (w : World) (d : DeleR) : Prop := KIn w d.k
theorem DIn.nw {w0 w : World} [n : Nw w0 w] {d : DeleR} (h : DIn w0 d) : DIn w d := KIn.nw (w0 := w0) h
structure DInW (w : World) (d : DeleR) : Prop where
  rd : Rd w d.k.A (cellsOf d.k.l)
  len : d.k.l.length = d.k.n
  cap : d.k.n ≤ d.k.c
  le : d.k.n ≤ 4398046511104
theorem DInW.nw {w0 w : World} [n : Nw w0 w] {d : DeleR} (h : DInW w0 d) : DInW w d := ⟨h.rd.chg n.out (fun _ _ _ h => h), h.len, h.cap, h.le⟩
theorem DIn.w {w : World} {d : DeleR} (h : DIn w d) : DInW w d := ⟨KIn.rd h, KIn.len h, KIn.cap h, Nat.le_trans (KIn.le h) (by decide)⟩
def dlOk (d : DeleR) : Bool := nameL d.l && isB d.k.l d.k.need && nameE d.pre
def flagE (b : Bool) : List UInt8 := encAll [if b then 1 else 0]
def dlE (d : DeleR) : List UInt8 := encRow d.l ++ (keyB d.k.l d.k.need ++ (encRow d.pre ++ flagE d.last))
theorem dl_keys (d : DeleR) : ((RowC.enc d).toArray.toList.drop 1).take 2 = [.slice d.k.A d.k.n d.k.c, .int .i64 d.k.need] := rfl
set_option maxRecDepth 100000 in
set_option maxHeartbeats 1600000 in
theorem isDele_calls (d : DeleR) {w : World} (hd : DInW w d) :
    Calls Tryz.prog 129 #[.agg (RowC.enc d).toArray] w fun e w' => e = .returned (.bool (dlOk d)) ∧ Step nowhere w w' := by
  have HD := Lib.hid hd
  clear hd
  have hsz : (RowC.enc d).toArray.size = 5 := rfl
  have hon := enc_one d
  obtain ⟨R, hR⟩ : ∃ R, R = dlOk d := ⟨_, rfl⟩
  have HR0 : Hid (R = (nameL d.l && isB d.k.l d.k.need && nameE d.pre)) := Lib.hid hR
  rw [← hR]
  clear hR
  cases h0 : nameL d.l
  case false =>
    have HF : Hid (R = false) := Lib.hid (by rw [HR0.out, h0]; simp)
    go_enter Tryz.func129, Tryz.ntmps129
    go_wp2_with (first | ((with_reducible apply (wpl_box_agg (dst := some 1))); (exact rfl); intro zt wzt _ _ _) | ((with_reducible apply wpl_loadcellN); (exact rfl); infer_instance; (exact rfl)))
    refine (wname_calls (strL d.l) d.l rfl _).mono ?_
    rw [h0]
    rintro e w5 ⟨rfl, _⟩
    go_wp2_with (first | go_skip)
    go_ret
    rw [HF.out]
    exact ⟨rfl, stepN⟩
  cases h1 : isB d.k.l d.k.need
  case false =>
    have HF : Hid (R = false) := Lib.hid (by rw [HR0.out, h1]; simp)
    go_enter Tryz.func129, Tryz.ntmps129
    go_wp2_with (first | ((with_reducible apply (wpl_box_agg (dst := some 1))); (exact rfl); intro zt wzt _ _ _) | ((with_reducible apply wpl_loadcellN); (exact rfl); infer_instance; (exact rfl)))
    refine (wname_calls (strL d.l) d.l rfl _).mono ?_
    rw [h0]
    rintro e w5 ⟨rfl, _⟩
    go_wp2_with (first | ((with_reducible apply (wpl_loadpart (g := zt) (k := 1) (n := 2) (tb := 197) (cs := (RowC.enc d).toArray) (vs := [.slice d.k.A d.k.n d.k.c, .int .i64 d.k.need]))); (exact rfl); infer_instance; infer_instance; (exact (by decide)); (exact rfl); (exact rfl)) | ((with_reducible apply (wpl_guard (op := .load _ _))); (exact rfl)) | ((with_reducible apply (wpl_guard (op := .fieldAddr _ _ _))); (exact rfl)))
    have hr5 : HR w5 d.k.A (cellsOf d.k.l) := ⟨HD.out.rd.later (stepN (w0 := w)).chg⟩
    refine (wIsKeys_calls (l := d.k.l) d.k.need HD.out.len HD.out.cap HD.out.le).mono ?_
    rw [h1]
    rintro e w6 ⟨rfl, _⟩
    go_wp2_with (first | go_skip)
    go_ret
    rw [HF.out]
    exact ⟨rfl, stepN⟩
  have HF : Hid (R = nameE d.pre) := Lib.hid (by rw [HR0.out, h0, h1]; simp)
  clear HR0
  go_enter Tryz.func129, Tryz.ntmps129
  go_wp2_with (first | ((with_reducible apply (wpl_box_agg (dst := some 1))); (exact rfl); intro zt wzt _ _ _) | ((with_reducible apply wpl_loadcellN); (exact rfl); infer_instance; (exact rfl)))
  refine (wname_calls (strL d.l) d.l rfl _).mono ?_
  rw [h0]
  rintro e w5 ⟨rfl, _⟩
  go_wp2_with (first | ((with_reducible apply (wpl_loadpart (g := zt) (k := 1) (n := 2) (tb := 197) (cs := (RowC.enc d).toArray) (vs := [.slice d.k.A d.k.n d.k.c, .int .i64 d.k.need]))); (exact rfl); infer_instance; infer_instance; (exact (by decide)); (exact rfl); (exact rfl)) | ((with_reducible apply (wpl_guard (op := .load _ _))); (exact rfl)) | ((with_reducible apply (wpl_guard (op := .fieldAddr _ _ _))); (exact rfl)))
  have hr5 : HR w5 d.k.A (cellsOf d.k.l) := ⟨HD.out.rd.later (stepN (w0 := w)).chg⟩
  refine (wIsKeys_calls (l := d.k.l) d.k.need HD.out.len HD.out.cap HD.out.le).mono ?_
  rw [h1]
  rintro e w6 ⟨rfl, _⟩
  go_wp2_with (first | ((with_reducible apply (wpl_guard (op := .load _ _))); (exact rfl)) | ((with_reducible apply (wpl_guard (op := .fieldAddr _ _ _))); (exact rfl)) | ((with_reducible apply wpl_loadcellN); (exact rfl); infer_instance; (exact rfl)))
  refine (nameE_calls (strL d.pre) d.pre rfl _).mono ?_
  rintro e w7 ⟨rfl, _⟩
  go_wp2_with fail
  go_ret
  rw [HF.out]
  exact ⟨rfl, stepN⟩
set_option maxRecDepth 100000 in
set_option maxHeartbeats 1600000 in
theorem notDl_calls (k : DeleR) {w : World} {zi : Nat} {t : TypeId} [hz : HB w zi t #[.func (.func 129) #[] #[]]] (hk : DInW w k) :
    Calls Tryz.prog 152 #[.agg (RowC.enc k).toArray, .pointer (some ⟨zi, 0, none⟩)] w fun e w' => e = .returned (.bool (!dlOk k)) ∧ Step nowhere w w' := by
  have HK := Lib.hid hk
  clear hk
  have hsz : (RowC.enc k).toArray.size = 5 := rfl
  have hon := enc_one k
  go_enter Tryz.func152, Tryz.ntmps152
  go_wp2_with (first | ((with_reducible apply (wpl_box_agg (dst := some 2))); (exact rfl); intro zk wzk _ _ _) | ((with_reducible apply wpl_loadrow); (exact rfl); infer_instance; infer_instance; (first | (with_reducible assumption) | (with_reducible exact H32.size _) | (with_reducible exact enc_sz _ rfl) | kernel_rfl)) | ((with_reducible apply wpl_loadcellN); (exact rfl); infer_instance; (exact rfl)))
  refine (isDele_calls k (DInW.nw (w0 := w) HK.out)).mono ?_
  rintro e w5 ⟨rfl, _⟩
  go_wp2_with fail
  go_ret
  exact ⟨rfl, stepN⟩
set_option maxRecDepth 100000 in
set_option maxHeartbeats 1600000 in
theorem idxDl_calls {A : Option Addr} {n c zi : Nat} {t : TypeId} {K : List DeleR} {w : World} [hr : HR w A (cellsOf K)] [hz : HB w zi t #[.func (.func 129) #[] #[]]] (hK : ∀ k ∈ K, DInW w k) (hl : K.length = n) (hmax : n ≤ 1000000000) :
    Calls Tryz.prog 168 #[.slice A n c, .func (.func 152) #[] #[.pointer (some ⟨zi, 0, none⟩)]] w fun e w' => ∃ r : Int, e = .returned (.int .i64 r) ∧ (0 ≤ r ↔ K.any (fun k => !dlOk k) = true) ∧ Step nowhere w w' := by
  have HL := Lib.hid hl
  have HMI := Lib.hid hK
  obtain ⟨R, hR⟩ : ∃ R, R = K.any (fun k => !dlOk k) := ⟨_, rfl⟩
  rw [← hR]
  have HRR := Lib.hid hR
  clear hK hR
  go_enter Tryz.func168, Tryz.ntmps168
  go_wp2_with fail
  go_loopw [8] (fun kv wr => ∃ k : Nat, k ≤ n ∧ kv = .int .i64 (k : Int) ∧ Hid ((K.take k).any (fun k => !dlOk k) = false) ∧ Step nowhere w wr) (fun kv _ => n - (intOf kv).toNat)
  case atStart => exact ⟨0, Nat.zero_le _, rfl, Lib.hid rfl, stepN⟩
  case round =>
    obtain ⟨k, hk, rfl, HJ, _⟩ := hrel
    by_cases hlt : k < n
    · have hltI : (k : Int) < n := by omega
      have hkl : k < K.length := by omega
      have hmem : gt K k ∈ K := gt_mem K k hkl
      have HMK : Hid (DInW w (gt K k)) := Lib.hid (HMI.out _ hmem)
      have hts : (K.take (k + 1)).any (fun k => !dlOk k) = ((K.take k).any (fun k => !dlOk k) || !dlOk (gt K k)) := by
        rw [← List.take_append_getElem hkl, List.any_append]
        simp [gt, List.getD_eq_getElem?_getD, hkl]
      obtain ⟨V, hV⟩ : ∃ V, V = dlOk (gt K k) := ⟨_, rfl⟩
      rw [HJ.out, Bool.false_or, ← hV] at hts
      have HV := Lib.hid hV
      have HTS := Lib.hid hts
      have HAL : Hid (V = false → R = true) := Lib.hid (fun h => by rw [HRR.out]; exact List.any_eq_true.2 ⟨_, hmem, by rw [← hV, h]; rfl⟩)
      clear hmem hts hV
      go_wp2_with (first | ((with_reducible apply (wpl_indexE (α := DeleR) (t := 140))); (exact rfl); (exact rfl); infer_instance; infer_instance; (first | (with_reducible assumption) | omega | (focus (simp; done)) | (focus (simp; omega; done)) | decide); (exact rfl); (decide); (first | (with_reducible assumption) | omega | (focus (simp; done)) | (focus (simp; omega; done)) | decide)) | ((with_reducible apply (wpl_loadE (α := DeleR) (t := 197))); infer_instance; (exact rfl); infer_instance; (exact rfl); (decide); (first | (with_reducible assumption) | omega | (focus (simp; done)) | (focus (simp; omega; done)) | decide)))
      refine (notDl_calls (gt K k) (DInW.nw HMK.out)).mono ?_
      rw [← HV.out]
      rintro e w1 ⟨rfl, _⟩
      cases V with
      | false =>
        have HAR : Hid (R = true) := Lib.hid (HAL.out rfl)
        clear HAL
        go_wp2_with fail
        go_ret
        exact ⟨_, rfl, ⟨fun _ => HAR.out, fun _ => by omega⟩, stepN⟩
      | true =>
        go_wp2_with fail
        exact ⟨⟨k + 1, by omega, by go_num, HTS, stepN⟩, by simp [intOf]; omega⟩
    · have hltI : ¬ (k : Int) < n := by omega
      have HF : Hid (R = false) := Lib.hid (by
        have h1 := HJ.out
        rw [HRR.out]
        rwa [List.take_of_length_le (by omega)] at h1)
      go_wp2_with fail
      go_ret
      refine ⟨_, rfl, ⟨fun h => by simp at h, fun h => ?_⟩, stepN⟩
      rw [HF.out] at h
      cases h
set_option maxRecDepth 100000 in
set_option maxHeartbeats 1600000 in
theorem contDl_calls {A : Option Addr} {n c zi : Nat} {t : TypeId} {K : List DeleR} {w : World} [hr : HR w A (cellsOf K)] [hz : HB w zi t #[.func (.func 129) #[] #[]]] (hK : ∀ k ∈ K, DInW w k) (hl : K.length = n) (hmax : n ≤ 1000000000) :
    Calls Tryz.prog 151 #[.slice A n c, .func (.func 152) #[] #[.pointer (some ⟨zi, 0, none⟩)]] w fun e w' => e = .returned (.bool (K.any (fun k => !dlOk k))) ∧ Step nowhere w w' := by
  have HMI := Lib.hid hK
  clear hK
  go_enter Tryz.func151, Tryz.ntmps151
  go_wp2_with fail
  refine (idxDl_calls (K := K) (fun r hr => HMI.out r hr) hl hmax).mono ?_
  rintro e w1 ⟨r, rfl, hr, _⟩
  have hd : decide (0 ≤ r) = K.any (fun k => !dlOk k) := by rw [Bool.eq_iff_iff, decide_eq_true_eq]; exact hr
  have HD := Lib.hid hd
  clear hd hr
  go_wp2_with fail
  go_ret
  refine ⟨?_, stepN⟩
  rw [← HD.out]
  rfl
set_option maxRecDepth 100000 in
set_option maxHeartbeats 1600000 in
theorem allDl_calls {A : Option Addr} {n c : Nat} {K : List DeleR} {w : World} [hr : HR w A (cellsOf K)] (hK : ∀ k ∈ K, DInW w k) (hl : K.length = n) (hmax : n ≤ 1000000000) :
    Calls Tryz.prog 128 #[.slice A n c, .func (.func 129) #[] #[]] w fun e w' => e = .returned (.bool (K.all dlOk)) ∧ Step nowhere w w' := by
  have HMI := Lib.hid hK
  have hd : (!K.any (fun k => !dlOk k)) = K.all dlOk := by simp [List.all_eq_not_any_not]
  have HD := Lib.hid hd
  clear hK hd
  go_enter Tryz.func128, Tryz.ntmps128
  go_wp2_with (first | ((with_reducible apply (wpl_box (dst := some 3) (cs := #[.func (.func 129) #[] #[]]))); (exact rfl); (exact rfl); intro bl wbl _ _ _))
  refine (contDl_calls (K := K) (fun k hk => DInW.nw (w0 := w) (HMI.out k hk)) hl hmax).mono ?_
  rintro e w5 ⟨rfl, _⟩
  go_wp2_with fail
  go_ret
  refine ⟨?_, stepN⟩
  rw [← HD.out]
  rfl
set_option maxRecDepth 100000 in
set_option maxHeartbeats 1600000 in
theorem flag_calls (b : Bool) (w : World) :
    Calls Tryz.prog 160 #[.bool b] w (FldPost w (flagE b) nowhere) := by
  unfold FldPost flagE
  cases b
  all_goals
    go_enter Tryz.func160, Tryz.ntmps160
    go_wp2_with (first | ((with_reducible apply wpl_bslice); (exact run_int1 _ _); intro zb wb _ _ _))
  · refine (numsC (z := zb) (vs := [0]) rfl rfl (show 9 * 1 ≤ 1000000000 by decide)).mono ?_
    rintro e w5 ⟨f5, caps5, T5, rfl, _, hL5, hT5⟩
    have hzb : w.heap.size ≤ zb := (NewA.monoS (w0 := w) (NewA.of_born (z := zb) 0)).out ⟨zb, 0, none⟩ rfl
    go_wp2_with fail
    go_ret
    first | refine ⟨f5, caps5, T5, rfl, stepN, hL5, fun x hx => ?_⟩ | refine ⟨f5, caps5, rfl, stepN, T5, hL5, fun x hx => ?_⟩
    rcases hT5 x hx with h | rfl
    · exact .inl (Nat.le_trans (stepN (w0 := w)).chg.size h)
    · exact .inl hzb
  · refine (numsC (z := zb) (vs := [1]) rfl rfl (show 9 * 1 ≤ 1000000000 by decide)).mono ?_
    rintro e w5 ⟨f5, caps5, T5, rfl, _, hL5, hT5⟩
    have hzb : w.heap.size ≤ zb := (NewA.monoS (w0 := w) (NewA.of_born (z := zb) 0)).out ⟨zb, 0, none⟩ rfl
    go_wp2_with fail
    go_ret
    first | refine ⟨f5, caps5, T5, rfl, stepN, hL5, fun x hx => ?_⟩ | refine ⟨f5, caps5, rfl, stepN, T5, hL5, fun x hx => ?_⟩
    rcases hT5 x hx with h | rfl
    · exact .inl (Nat.le_trans (stepN (w0 := w)).chg.size h)
    · exact .inl hzb
set_option maxRecDepth 100000 in
set_option maxHeartbeats 1600000 in
theorem layDele_calls (d : DeleR) {w : World} (hd : DIn w d) :
    Calls Tryz.prog 136 #[.agg (RowC.enc d).toArray] w (FldPost w (dlE d) (inRow d.k.A d.k.l)) := by
  have HD := Lib.hid hd
  clear hd
  have hsz : (RowC.enc d).toArray.size = 5 := rfl
  have hon := enc_one d
  unfold FldPost
  go_enter Tryz.func136, Tryz.ntmps136
  go_wp2_with (first | ((with_reducible apply (wpl_box_agg (dst := some 1))); (exact rfl); intro zt wzt _ _ _))
  have hwz := (stepN (w0 := w) (w := wzt)).chg.size
  refine wp_region_N (nowhere) (by kernel_rfl) (fun wd _ _ => ?_)
  refine' takeH (i := 0) (v := _) rfl (by kernel_rfl) (by kernel_rfl) (by kernel_rfl) (fun _ _ _ h => h) (yields_of (by rfl) (fun w' _ => ?_)) inferInstance ?_
  rotate_left
  · (go_simp; try with_reducible rfl)
  try simp only [Act.put, sA]; try simp only [sB, sC]
  refine' takeH (i := 1) (v := _) rfl (by kernel_rfl) (by kernel_rfl) (by kernel_rfl) (fun _ _ _ h => h) (yields_of (by rfl) (fun w' _ => ?_)) inferInstance ?_
  rotate_left
  · ((with_reducible apply ev_loadcellN); (exact rfl); infer_instance; infer_instance; (exact rfl))
  try simp only [Act.put, sA]; try simp only [sB, sC]
  refine' takeH (i := 3) (v := _) rfl (by kernel_rfl) (by kernel_rfl) (by kernel_rfl) (fun _ _ _ h => h) (yields_of (by rfl) (fun w' _ => ?_)) inferInstance ?_
  rotate_left
  · (go_simp; try with_reducible rfl)
  try simp only [Act.put, sA]; try simp only [sB, sC]
  refine' takeH (i := 4) (v := _) rfl (by kernel_rfl) (by kernel_rfl) (by kernel_rfl) (fun _ _ _ h => h) (yields_of (by rfl) (fun w' _ => ?_)) inferInstance ?_
  rotate_left
  · ((with_reducible apply ev_loadMid); (exact rfl); infer_instance; infer_instance; (exact dl_keys _); (exact rfl); (decide))
  try simp only [Act.put, sA]; try simp only [sB, sC]
  refine' takeH (i := 6) (v := _) rfl (by kernel_rfl) (by kernel_rfl) (by kernel_rfl) (fun _ _ _ h => h) (yields_of (by rfl) (fun w' _ => ?_)) inferInstance ?_
  rotate_left
  · (go_simp; try with_reducible rfl)
  try simp only [Act.put, sA]; try simp only [sB, sC]
  refine' takeH (i := 7) (v := _) rfl (by kernel_rfl) (by kernel_rfl) (by kernel_rfl) (fun _ _ _ h => h) (yields_of (by rfl) (fun w' _ => ?_)) inferInstance ?_
  rotate_left
  · ((with_reducible apply ev_loadcellN); (exact rfl); infer_instance; infer_instance; (exact rfl))
  try simp only [Act.put, sA]; try simp only [sB, sC]
  refine' takeH (i := 9) (v := _) rfl (by kernel_rfl) (by kernel_rfl) (by kernel_rfl) (fun _ _ _ h => h) (yields_of (by rfl) (fun w' _ => ?_)) inferInstance ?_
  rotate_left
  · (go_simp; try with_reducible rfl)
  try simp only [Act.put, sA]; try simp only [sB, sC]
  refine' takeH (i := 10) (v := _) rfl (by kernel_rfl) (by kernel_rfl) (by kernel_rfl) (fun _ _ _ h => h) (yields_of (by rfl) (fun w' _ => ?_)) inferInstance ?_
  rotate_left
  · ((with_reducible apply ev_loadcellN); (exact rfl); infer_instance; infer_instance; (exact rfl))
  try simp only [Act.put, sA]; try simp only [sB, sC]
  refine goH (i := 2) (by kernel_rfl) rfl (fun K_ hK_ => ?_)
  go_simp
  refine (text_calls (strL d.l) d.l rfl _).mono ?_
  rintro e w4 ⟨f4, caps4, T4, rfl, _, hL4, hT4⟩
  refine hK_.out _ _ inferInstance (fun _ => ?_)
  clear hK_ K_
  try simp only [Act.put, sA]; try simp only [sB, sC]
  refine goH (i := 5) (by kernel_rfl) rfl (fun K_ hK_ => ?_)
  go_simp
  refine (layKeys_calls d.k (KIn.chg HD.out (stepN (w0 := w)).chg (fun _ _ h => h))).mono ?_
  rintro e w5 ⟨f5, caps5, T5, rfl, _, hL5, hT5⟩
  refine hK_.out _ _ inferInstance (fun _ => ?_)
  clear hK_ K_
  try simp only [Act.put, sA]; try simp only [sB, sC]
  refine goH (i := 8) (by kernel_rfl) rfl (fun K_ hK_ => ?_)
  go_simp
  refine (text_calls (strL d.pre) d.pre rfl _).mono ?_
  rintro e w6 ⟨f6, caps6, T6, rfl, _, hL6, hT6⟩
  refine hK_.out _ _ inferInstance (fun _ => ?_)
  clear hK_ K_
  try simp only [Act.put, sA]; try simp only [sB, sC]
  refine goH (i := 11) (by kernel_rfl) rfl (fun K_ hK_ => ?_)
  go_simp
  refine (flag_calls d.last _).mono ?_
  rintro e w7 ⟨f7, caps7, T7, rfl, _, hL7, hT7⟩
  refine hK_.out _ _ inferInstance (fun _ => ?_)
  clear hK_ K_
  try simp only [Act.put, sA]; try simp only [sB, sC]
  refine goH (i := 12) (by kernel_rfl) rfl (fun K_ hK_ => ?_)
  rw [if_pos (by kernel_rfl)]
  refine wpr_of_list ?_
  (first | ((with_reducible apply (stop_dst (dst := some 15))); (try simp only [Act.put, sA, sB, sC]); ((with_reducible apply (wpl_bslice (dst := some 15))); (exact run_fld4 _ _ _ _ _ _ _ _ _); intro zc wb _ _ _)))
  refine wpList_nil ?_
  unfold onlyN
  refine hK_.out _ _ inferInstance (fun _ => ?_)
  clear hK_ K_
  try simp only [Act.put, sA]; try simp only [sB, sC]
  refine goH (i := 13) (by kernel_rfl) rfl (fun K_ hK_ => ?_)
  go_simp
  refine (fields4 (z := zc) (hL4.later (stepN (w0 := w4)).chg (fun _ _ h => h)) (hL5.later (stepN (w0 := w5)).chg (fun _ _ h => h)) (hL6.later (stepN (w0 := w6)).chg (fun _ _ h => h)) (hL7.later (stepN (w0 := w7)).chg (fun _ _ h => h))).mono ?_
  rintro e w8 ⟨f8, caps8, T8, rfl, _, hL8, hT8⟩
  have hzc : w.heap.size ≤ zc := (NewA.monoS (w0 := w) (NewA.of_born (z := zc) 0)).out ⟨zc, 0, none⟩ rfl
  refine hK_.out _ _ inferInstance (fun _ => ?_)
  clear hK_ K_
  try simp only [Act.put, sA]; try simp only [sB, sC]
  refine' takeH (i := 14) (v := _) rfl (by kernel_rfl) (by kernel_rfl) (by kernel_rfl) (fun _ _ _ h => h) (yields_of (by rfl) (fun w' _ => ?_)) inferInstance ?_
  rotate_left
  · (go_simp; try with_reducible rfl)
  try simp only [Act.put, sA]; try simp only [sB, sC]
  refine wpAnyH_done (by kernel_rfl) ?_ _
  all_goals
    go_wp2_with fail
    go_ret
    first | refine ⟨f8, caps8, T8, rfl, stepN, hL8, fun x hx => ?_⟩ | refine ⟨f8, caps8, rfl, stepN, T8, hL8, fun x hx => ?_⟩
    rcases hT8 x hx with h | rfl | h | h | h | h
    · exact .inl (Nat.le_trans (stepN (w0 := w)).chg.size h)
    · exact .inl hzc
    · exact .inl (Nat.le_trans (stepN (w0 := w)).chg.size (hT4 x h))
    · rcases hT5 x h with h | h
      · exact .inl (Nat.le_trans (stepN (w0 := w)).chg.size h)
      · exact .inr h
    · exact .inl (Nat.le_trans (stepN (w0 := w)).chg.size (hT6 x h))
    · rcases hT7 x h with h | h
      · exact .inl (Nat.le_trans (stepN (w0 := w)).chg.size h)
      · exact h.elim
end Go.Proofs.YtmnapacibpnodaaGreat
end
section
open Go Go.RowKit
namespace Go.Proofs.YtmnapacibpnodaaGreat
abbrev Str := List UInt8
instance rowCStr : RowC Str := ⟨1, fun s => [.string (strL s)], fun _ => rfl, fun s u hu => by
  rw [List.mem_singleton.1 hu]
  rfl, []⟩
instance elemStr : ElemT Tryz.prog 200 9 1 16 (.string ⟨#[]⟩) := ⟨⟨Tryz.underlying200, by kernel_rfl, rfl, by decide⟩⟩
/-- no string twice, of the first -/
def allS (l : List Str) : Nat → Bool
  | 0 => true
  | k + 1 => allS l k && !decide (gt l k ∈ l.take k)
theorem allS_false (l : List Str) (k : Nat) (h : allS l k = false) : ∀ n, k ≤ n → allS l n = false
  | 0, hn => by
    obtain rfl : k = 0 := by omega
    exact h
  | n + 1, hn => by
    by_cases e : k = n + 1
    · subst e; exact h
    · rw [allS, allS_false l k h n (by omega), Bool.false_and]
theorem str_cell (l : List Str) (k : Nat) : nth (RowC.enc (gt l k)) 0 = some (.string (strL (gt l k))) := rfl
set_option maxRecDepth 100000 in
set_option maxHeartbeats 1600000 in
theorem indexS_calls {A : Option Addr} {n c : Nat} {l : List Str} (x : Str) {w : World} [hr : HR w A (cellsOf l)] (hl : l.length = n) (hmax : n ≤ 1000000000) :
    Calls Tryz.prog 170 #[.slice A n c, .string (strL x)] w fun e w' => ∃ r : Int, e = .returned (.int .i64 r) ∧ (0 ≤ r ↔ x ∈ l) ∧ Step nowhere w w' := by
  have HL := Lib.hid hl
  go_enter Tryz.func170, Tryz.ntmps170
  go_wp2_with fail
  go_loopw [8] (fun kv wr => ∃ k : Nat, k ≤ n ∧ kv = .int .i64 (k : Int) ∧ Hid (x ∉ l.take k) ∧ Step nowhere w wr) (fun kv _ => n - (intOf kv).toNat)
  case atStart => exact ⟨0, Nat.zero_le _, rfl, Lib.hid (by simp), stepN⟩
  case round =>
    obtain ⟨k, hk, rfl, HJ, _⟩ := hrel
    by_cases hlt : k < n
    · have hltI : (k : Int) < n := by omega
      have hkl : k < l.length := by omega
      have hmem : gt l k ∈ l := gt_mem l k hkl
      have HTK : Hid (l.take (k + 1) = l.take k ++ [gt l k]) := Lib.hid (by
        rw [← List.take_append_getElem hkl]
        simp [gt, List.getD_eq_getElem?_getD, hkl])
      by_cases hx : x = gt l k
      · have hE : ((strL x).toList == (strL (gt l k)).toList) = true := by rw [hx]; simp
        have HM : Hid (x ∈ l) := Lib.hid (by rw [hx]; exact hmem)
        clear hmem hx
        go_wp2_with (first | ((with_reducible apply (wpl_loadF (α := Str) (k := k) (j := 0) (s := 1))); infer_instance; (exact rfl); infer_instance; (exact rfl); (exact hkl); (exact str_cell _ _)) | ((with_reducible apply (wpl_indexE (α := Str) (t := 200))); (exact rfl); (exact rfl); infer_instance; infer_instance; (first | (with_reducible assumption) | omega | (focus (simp; done)) | (focus (simp; omega; done)) | decide); (exact rfl); (decide); (first | (with_reducible assumption) | omega | (focus (simp; done)) | (focus (simp; omega; done)) | decide)))
        go_ret
        exact ⟨_, rfl, ⟨fun _ => HM.out, fun _ => by omega⟩, stepN⟩
      · have hE : ((strL x).toList == (strL (gt l k)).toList) = false := by rw [strL_list, strL_list]; simpa using hx
        have HN : Hid (x ∉ l.take (k + 1)) := Lib.hid (by
          rw [HTK.out, List.mem_append, List.mem_singleton]
          rintro (h | h)
          · exact HJ.out h
          · exact hx h)
        clear hmem hx
        go_wp2_with (first | ((with_reducible apply (wpl_loadF (α := Str) (k := k) (j := 0) (s := 1))); infer_instance; (exact rfl); infer_instance; (exact rfl); (exact hkl); (exact str_cell _ _)) | ((with_reducible apply (wpl_indexE (α := Str) (t := 200))); (exact rfl); (exact rfl); infer_instance; infer_instance; (first | (with_reducible assumption) | omega | (focus (simp; done)) | (focus (simp; omega; done)) | decide); (exact rfl); (decide); (first | (with_reducible assumption) | omega | (focus (simp; done)) | (focus (simp; omega; done)) | decide)))
        exact ⟨⟨k + 1, by omega, by go_num, HN, stepN⟩, by simp [intOf]; omega⟩
    · have hltI : ¬ (k : Int) < n := by omega
      have HF : Hid (x ∉ l) := Lib.hid (by
        have h1 := HJ.out
        rwa [List.take_of_length_le (by have := HL.out; omega)] at h1)
      go_wp2_with fail
      go_ret
      exact ⟨_, rfl, ⟨fun h => by simp at h, fun h => absurd h HF.out⟩, stepN⟩
set_option maxRecDepth 100000 in
set_option maxHeartbeats 1600000 in
theorem containsS_calls {A : Option Addr} {n c : Nat} {l : List Str} (x : Str) {w : World} [hr : HR w A (cellsOf l)] (hl : l.length = n) (hmax : n ≤ 1000000000) :
    Calls Tryz.prog 154 #[.slice A n c, .string (strL x)] w fun e w' => e = .returned (.bool (decide (x ∈ l))) ∧ Step nowhere w w' := by
  go_enter Tryz.func154, Tryz.ntmps154
  go_wp2_with fail
  refine (indexS_calls (l := l) x hl hmax).mono ?_
  rintro e w1 ⟨r, rfl, hr, _⟩
  have hd : decide (0 ≤ r) = decide (x ∈ l) := decide_eq_decide.2 hr
  have HD := Lib.hid hd
  clear hd hr
  go_wp2_with fail
  go_ret
  refine ⟨?_, stepN⟩
  rw [← HD.out]
  rfl
set_option maxRecDepth 100000 in
set_option maxHeartbeats 1600000 in
theorem unlikeS_calls {A : Option Addr} {n c : Nat} {l : List Str} {w : World} [hr : HR w A (cellsOf l)] (hl : l.length = n) (hc : n ≤ c) (hmax : n ≤ 1000000000) :
    Calls Tryz.prog 130 #[.slice A n c] w fun e w' => e = .returned (.bool (allS l n)) ∧ Step nowhere w w' := by
  obtain ⟨R, hR⟩ : ∃ R, R = allS l n := ⟨_, rfl⟩
  have HRE := Lib.hid hR
  rw [← hR]
  clear hR
  go_enter Tryz.func130, Tryz.ntmps130
  go_wp2_with fail
  go_loopw [7] (fun kv wr => ∃ k : Nat, k ≤ n ∧ kv = .int .i64 (k : Int) ∧ Hid (allS l k = true) ∧ Step nowhere w wr) (fun kv _ => n - (intOf kv).toNat)
  case atStart => exact ⟨0, Nat.zero_le _, rfl, Lib.hid rfl, stepN⟩
  case round =>
    obtain ⟨k, hk, rfl, HA, _⟩ := hrel
    by_cases hlt : k < n
    · have hltI : (k : Int) < n := by omega
      have hkl : k < l.length := by omega
      have hkc : k ≤ c := by omega
      have HTL : Hid ((l.take k).length = k) := Lib.hid (by rw [List.length_take]; omega)
      obtain ⟨V, hV⟩ : ∃ V, V = decide (gt l k ∈ l.take k) := ⟨_, rfl⟩
      have HV := Lib.hid hV
      have HA2 : Hid (allS l (k + 1) = !V) := Lib.hid (by rw [allS, HA.out, hV, Bool.true_and])
      clear hV
      go_wp2_with (first | ((with_reducible apply (wpl_loadF (α := Str) (k := k) (j := 0) (s := 1))); infer_instance; (exact rfl); infer_instance; (exact rfl); (exact hkl); (exact str_cell _ _)) | ((with_reducible apply wpl_sl_h); (exact rfl); (exact rfl); infer_instance; (first | (with_reducible assumption) | omega)) | ((with_reducible apply (wpl_indexE (α := Str) (t := 200))); (exact rfl); (exact rfl); infer_instance; infer_instance; (first | (with_reducible assumption) | omega | (focus (simp; done)) | (focus (simp; omega; done)) | decide); (exact rfl); (decide); (first | (with_reducible assumption) | omega | (focus (simp; done)) | (focus (simp; omega; done)) | decide)))
      refine (containsS_calls (l := l.take k) (hr := HR.takeR inferInstance k) (gt l k) HTL.out (by omega)).mono ?_
      rw [← HV.out]
      rintro e w2 ⟨rfl, _⟩
      cases V
      case false =>
        go_wp2_with fail
        exact ⟨⟨k + 1, by omega, by go_num, Lib.hid (by rw [HA2.out]; rfl), stepN⟩, by simp [intOf]; omega⟩
      case true =>
        have HF : Hid (R = false) := Lib.hid (by rw [HRE.out]; exact allS_false l (k + 1) (by rw [HA2.out]; rfl) n hlt)
        go_wp2_with fail
        go_ret
        rw [HF.out]
        exact ⟨rfl, stepN⟩
    · have hltI : ¬ (k : Int) < n := by omega
      have hkn : k = n := by omega
      have HKN := Lib.hid hkn
      clear hkn
      go_wp2_with fail
      go_ret
      refine ⟨?_, stepN⟩
      rw [HRE.out, ← HKN.out, HA.out]
      rfl
end Go.Proofs.YtmnapacibpnodaaGreat
end
section
open Go Go.RowKit
namespace Go.Proofs.YtmnapacibpnodaaGreat
theorem run_str1T (s : Str) (w : World) : (Instr.buildSlice 200 1 #[(0, .string (strL s))]).run Tryz.prog w = .ok (.slice (some ⟨w.heap.size, 0, none⟩) 1 1) (w.alloc (.cells (cellsOf [s]).toArray 9)) := by kernel_rfl
def namesD (K : List DeleR) : List Str := K.map DeleR.l
theorem namesD_take (K : List DeleR) (k : Nat) (h : k < K.length) : namesD (K.take (k + 1)) = namesD (K.take k) ++ [(gt K k).l] := by
  rw [namesD, ← List.take_append_getElem h, List.map_append]
  simp [namesD, gt, List.getD_eq_getElem?_getD, h]
set_option maxRecDepth 100000 in
set_option maxHeartbeats 1600000 in
theorem names_calls {A : Option Addr} {n c : Nat} {K : List DeleR} {w : World} [hr : HR w A (cellsOf K)] (hl : K.length = n) (hmax : n ≤ 1000000) :
    Calls Tryz.prog 131 #[.slice A n c] w fun e w' => ∃ (A' : Option Addr) (c' : Nat), e = .returned (.slice A' n c') ∧ n ≤ c' ∧ HR w' A' (cellsOf (namesD K)) ∧ Step nowhere w w' := by
  have HL := Lib.hid hl
  have HRR := Lib.hid hr.out
  have hcell0 : HO w 9 1 none 0 0 (cellsOf ([] : List Str)) := ⟨Own.nil _ _ _⟩
  go_enter Tryz.func131, Tryz.ntmps131
  go_wp2_with fail
  go_loopw [3, 8] (fun ov iv wr => ∃ (k : Nat) (A1 : Option Addr) (c1 : Nat), k ≤ n ∧ iv = .int .i64 (k : Int) ∧ ov = .slice A1 k c1 ∧ k ≤ c1 ∧ Step nowhere w wr ∧ HO wr 9 1 A1 k c1 (cellsOf (namesD (K.take k))) ∧ NewA w A1) (fun _ iv _ => n - (intOf iv).toNat)
  case atStart => exact ⟨0, none, 0, Nat.zero_le _, rfl, rfl, Nat.le_refl _, stepN, hcell0, newA_none _⟩
  case round =>
    clear hcell0
    obtain ⟨k, A1, c1, hk, rfl, rfl, hkc, st, hO, hA1⟩ := hrel
    have nr : Nw w wr := ⟨st.chg⟩
    have hrA : HR wr A (cellsOf K) := ⟨HRR.out.later st.chg⟩
    by_cases hlt : k < n
    · have hltI : (k : Int) < n := by omega
      have hkl : k < K.length := by rw [HL.out]; exact hlt
      have hLL : K.length = n := HL.out
      have hsz : (RowC.enc (gt K k)).toArray.size = 5 := rfl
      have hon := enc_one (gt K k)
      have kb1 := run_str1T (gt K k).l
      have HNX : Hid (namesD (K.take (k + 1)) = namesD (K.take k) ++ [(gt K k).l]) := Lib.hid (namesD_take K k hkl)
      go_wp2_with (first | ((with_reducible apply (stop_dst (dst := some 15))); (try simp only [Act.put, sA, sB, sC]); ((with_reducible apply (wpl_bslice (dst := some 15))); (exact kb1 _); intro zb wb _ _ _)) | ((with_reducible apply (wpl_appendR (α := Str))); (exact rfl); (exact rfl); infer_instance; infer_instance; (exact HB.cells inferInstance); (exact rfl); (exact rfl); omega; (decide); (decide); intro A' c' wa _ _ _ hcap) | ((with_reducible apply (wpl_alloc (dst := some 5))); intro z5 wz5 _ _ _) | ((with_reducible apply wpl_loadcellN); (exact rfl); infer_instance; (exact rfl)) | ((with_reducible apply wpl_storerow); (exact rfl); (exact rfl); infer_instance; infer_instance; (first | (with_reducible assumption) | (with_reducible exact H32.size _) | (with_reducible exact enc_sz _ rfl) | kernel_rfl); (first | (with_reducible assumption) | (with_reducible exact H32.size _) | (with_reducible exact enc_sz _ rfl) | kernel_rfl); (first | (with_reducible exact u8s_one _) | (with_reducible assumption) | (with_reducible exact enc_one _) | kernel_rfl); intro ws _ _) | ((with_reducible apply (wpl_indexE (α := DeleR) (t := 140))); (exact rfl); (exact rfl); infer_instance; infer_instance; (first | (with_reducible assumption) | omega | (focus (simp; done)) | (focus (simp; omega; done)) | decide); (exact rfl); (decide); (first | (with_reducible assumption) | omega | (focus (simp; done)) | (focus (simp; omega; done)) | decide)) | ((with_reducible apply (wpl_loadE (α := DeleR) (t := 197))); infer_instance; (exact rfl); infer_instance; (exact rfl); (decide); (first | (with_reducible assumption) | omega | (focus (simp; done)) | (focus (simp; omega; done)) | decide)))
      have hcA : Chg (rowOf A1) wb wa := (inferInstance : Ch (rowOf A1) wb wa).out
      have nb : Nw wr wb := inferInstance
      refine ⟨⟨k + 1, A', c', by omega, by go_num, rfl, hcap, ⟨?_⟩, ?_, newA_grew inferInstance hA1 (Nat.le_trans st.chg.size nb.out.size)⟩, by simp [intOf]; omega⟩
      · exact (st.chg.trans nb.out (fun _ _ h => h)).trans hcA (fun x hx ⟨ad, e, h⟩ => by have := hA1.out ad e; omega)
      · rw [HNX.out]; infer_instance
    · have hltI : ¬ (k : Int) < n := by omega
      have hkn : k = n := by omega
      have HK : Hid (namesD (K.take k) = namesD K) := Lib.hid (by rw [List.take_of_length_le (by have := HL.out; omega)])
      subst hkn
      clear hrA
      go_wp2_with fail
      go_ret
      refine ⟨A1, c1, rfl, hkc, ?_, st⟩
      rw [← HK.out]
      exact ⟨hO.out.rd⟩
end Go.Proofs.YtmnapacibpnodaaGreat
end
section
open Go Go.RowKit
namespace Go.Proofs.YtmnapacibpnodaaGreat
def tgsOk (nm : List UInt8) (v e0 : Int) (P : List TargetR) (D : List DeleR) : Bool := nameL nm && verB v && numB e0 && decide (P.length ≤ 16) && P.all tgOk && riseT P P.length && decide (D.length ≤ 16) && D.all dlOk && allS (namesD D) D.length
set_option maxRecDepth 100000 in
set_option maxHeartbeats 6400000 in
theorem isTargets_calls (nm : List UInt8) (v e0 : Int) {A C : Option Addr} {n c m d : Nat} {P : List TargetR} {D : List DeleR} {w : World} [hr : HR w A (cellsOf P)] [hq : HR w C (cellsOf D)] (hl : P.length = n) (hm : D.length = m) (hmax : n ≤ 9223372036854775807) (hmaxm : m ≤ 9223372036854775807) (hD : ∀ k ∈ D, DInW w k) :
    Calls Tryz.prog 98 #[.agg #[.string (strL nm), .int .i64 v, .int .i64 e0, .slice A n c, .slice C m d]] w fun e w' => e = .returned (.bool (tgsOk nm v e0 P D)) ∧ Step nowhere w w' := by
  have HL := Lib.hid hl
  have HM := Lib.hid hm
  have HDI := Lib.hid hD
  obtain ⟨R, hR⟩ : ∃ R, R = tgsOk nm v e0 P D := ⟨_, rfl⟩
  have hR2 := hR
  rw [tgsOk] at hR2
  rw [← hR]
  obtain ⟨B0, hB0⟩ : ∃ B, B = nameL nm := ⟨_, rfl⟩
  obtain ⟨B1, hB1⟩ : ∃ B, B = verB v := ⟨_, rfl⟩
  obtain ⟨B2, hB2⟩ : ∃ B, B = numB e0 := ⟨_, rfl⟩
  obtain ⟨B3, hB3⟩ : ∃ B, B = decide (P.length ≤ 16) := ⟨_, rfl⟩
  obtain ⟨B4, hB4⟩ : ∃ B, B = P.all tgOk := ⟨_, rfl⟩
  obtain ⟨B5, hB5⟩ : ∃ B, B = riseT P P.length := ⟨_, rfl⟩
  obtain ⟨B6, hB6⟩ : ∃ B, B = decide (D.length ≤ 16) := ⟨_, rfl⟩
  obtain ⟨B7, hB7⟩ : ∃ B, B = D.all dlOk := ⟨_, rfl⟩
  obtain ⟨B8, hB8⟩ : ∃ B, B = allS (namesD D) D.length := ⟨_, rfl⟩
  rw [← hB0, ← hB1, ← hB2, ← hB3, ← hB4, ← hB5, ← hB6, ← hB7, ← hB8] at hR2
  have HR0 := Lib.hid hR2
  have HB0 := Lib.hid hB0
  have HB1 := Lib.hid hB1
  have HB2 := Lib.hid hB2
  have HB3 := Lib.hid hB3
  have HB4 := Lib.hid hB4
  have HB5 := Lib.hid hB5
  have HB6 := Lib.hid hB6
  have HB7 := Lib.hid hB7
  have HB8 := Lib.hid hB8
  clear hD hl hm hR hR2 hB0 hB1 hB2 hB3 hB4 hB5 hB6 hB7 hB8
  go_enter Tryz.func98, Tryz.ntmps98
  go_wp2_with (first | ((with_reducible apply (wpl_box_agg (dst := some 1))); (exact rfl); intro zt wzt _ _ _) | ((with_reducible apply wpl_loadcellN); (exact rfl); infer_instance; (exact rfl)))
  refine (wname_calls (strL nm) nm rfl _).mono ?_
  rw [← HB0.out]
  rintro e w10 ⟨rfl, _⟩
  cases B0
  case false =>
    have HF : Hid (R = false) := Lib.hid (by rw [HR0.out]; simp)
    go_wp2_with (first | go_skip)
    go_ret
    rw [HF.out]
    exact ⟨rfl, stepN⟩
  go_wp2_with (first | ((with_reducible apply (wpl_guard (op := .load _ _))); (exact rfl)) | ((with_reducible apply (wpl_guard (op := .fieldAddr _ _ _))); (exact rfl)) | ((with_reducible apply wpl_loadcellN); (exact rfl); infer_instance; (exact rfl)))
  refine (version_calls v _).mono ?_
  rw [← HB1.out]
  rintro e w11 ⟨rfl, _⟩
  cases B1
  case false =>
    have HF : Hid (R = false) := Lib.hid (by rw [HR0.out]; simp)
    go_wp2_with (first | go_skip)
    go_ret
    rw [HF.out]
    exact ⟨rfl, stepN⟩
  go_wp2_with (first | ((with_reducible apply (wpl_guard (op := .load _ _))); (exact rfl)) | ((with_reducible apply (wpl_guard (op := .fieldAddr _ _ _))); (exact rfl)) | ((with_reducible apply wpl_loadcellN); (exact rfl); infer_instance; (exact rfl)))
  refine (number_calls e0 _).mono ?_
  rw [← HB2.out]
  rintro e w12 ⟨rfl, _⟩
  cases B2
  case false =>
    by_cases h2 : n ≤ 16
    all_goals
      have h2I := h2
      have HF : Hid (R = false) := Lib.hid (by rw [HR0.out]; simp)
      go_wp2_with (first | go_skip)
      go_ret
      rw [HF.out]
      exact ⟨rfl, stepN⟩
  by_cases hc3 : n ≤ 16
  rotate_left
  focus
    have hcI : ¬ (n : Int) ≤ 16 := by omega
    have HF : Hid (R = false) := Lib.hid (by rw [HR0.out, HB3.out, decide_eq_false (show ¬ P.length ≤ 16 by have := HL.out; omega)]; simp)
    go_wp2_with (first | go_skip | ((with_reducible apply (wpl_guard (op := .call _))); (exact rfl)) | ((with_reducible apply (wpl_guard (op := .load _ _))); (exact rfl)) | ((with_reducible apply (wpl_guard (op := .fieldAddr _ _ _))); (exact rfl)) | ((with_reducible apply wpl_loadcellN); (exact rfl); infer_instance; (exact rfl)))
    go_ret
    rw [HF.out]
    exact ⟨rfl, stepN⟩
  have hcI3 : (n : Int) ≤ 16 := by omega
  have HRc3 : Hid (B3 = true) := Lib.hid (by rw [HB3.out, decide_eq_true (show P.length ≤ 16 by have := HL.out; omega)])
  go_wp2_with (first | ((with_reducible apply (wpl_guard (op := .load _ _))); (exact rfl)) | ((with_reducible apply (wpl_guard (op := .fieldAddr _ _ _))); (exact rfl)) | ((with_reducible apply wpl_loadcellN); (exact rfl); infer_instance; (exact rfl)))
  refine (allT_calls (K := P) HL.out hmax).mono ?_
  rw [← HB4.out]
  rintro e w14 ⟨rfl, _⟩
  cases B4
  case false =>
    have HF : Hid (R = false) := Lib.hid (by rw [HR0.out]; simp)
    go_wp2_with (first | go_skip)
    go_ret
    rw [HF.out]
    exact ⟨rfl, stepN⟩
  go_wp2_with (first | ((with_reducible apply (wpl_guard (op := .load _ _))); (exact rfl)) | ((with_reducible apply (wpl_guard (op := .fieldAddr _ _ _))); (exact rfl)) | ((with_reducible apply wpl_loadcellN); (exact rfl); infer_instance; (exact rfl)))
  refine (riseT_calls (P := P) HL.out hmax).mono ?_
  rw [← HB5.out]
  rintro e w15 ⟨rfl, _⟩
  cases B5
  case false =>
    by_cases h5 : m ≤ 16
    all_goals
      have h5I := h5
      have HF : Hid (R = false) := Lib.hid (by rw [HR0.out]; simp)
      go_wp2_with (first | go_skip)
      go_ret
      rw [HF.out]
      exact ⟨rfl, stepN⟩
  by_cases hc6 : m ≤ 16
  rotate_left
  focus
    have hcI : ¬ (m : Int) ≤ 16 := by omega
    have HF : Hid (R = false) := Lib.hid (by rw [HR0.out, HB6.out, decide_eq_false (show ¬ D.length ≤ 16 by have := HM.out; omega)]; simp)
    go_wp2_with (first | go_skip | ((with_reducible apply (wpl_guard (op := .call _))); (exact rfl)) | ((with_reducible apply (wpl_guard (op := .load _ _))); (exact rfl)) | ((with_reducible apply (wpl_guard (op := .fieldAddr _ _ _))); (exact rfl)) | ((with_reducible apply wpl_loadcellN); (exact rfl); infer_instance; (exact rfl)))
    go_ret
    rw [HF.out]
    exact ⟨rfl, stepN⟩
  have hcI6 : (m : Int) ≤ 16 := by omega
  have HRc6 : Hid (B6 = true) := Lib.hid (by rw [HB6.out, decide_eq_true (show D.length ≤ 16 by have := HM.out; omega)])
  go_wp2_with (first | ((with_reducible apply (wpl_guard (op := .load _ _))); (exact rfl)) | ((with_reducible apply (wpl_guard (op := .fieldAddr _ _ _))); (exact rfl)) | ((with_reducible apply wpl_loadcellN); (exact rfl); infer_instance; (exact rfl)))
  refine (allDl_calls (K := D) (fun r hr => DInW.nw (w0 := w) (HDI.out r hr)) HM.out (by omega)).mono ?_
  rw [← HB7.out]
  rintro e w17 ⟨rfl, _⟩
  cases B7
  case false =>
    have HF : Hid (R = false) := Lib.hid (by rw [HR0.out]; simp)
    go_wp2_with (first | go_skip)
    go_ret
    rw [HF.out]
    exact ⟨rfl, stepN⟩
  go_wp2_with (first | ((with_reducible apply (wpl_guard (op := .load _ _))); (exact rfl)) | ((with_reducible apply (wpl_guard (op := .fieldAddr _ _ _))); (exact rfl)) | ((with_reducible apply wpl_loadcellN); (exact rfl); infer_instance; (exact rfl)))
  refine (names_calls (K := D) HM.out (by omega)).mono ?_
  rintro e w30 ⟨A9, c9, rfl, hc9, hr9, _⟩
  have HC9 := Lib.hid hc9
  go_wp2_with fail
  refine (unlikeS_calls (l := namesD D) (by rw [namesD, List.length_map]; exact HM.out) HC9.out (by omega)).mono ?_
  have HB9 : Hid (allS (namesD D) m = B8) := Lib.hid (by rw [HB8.out, HM.out])
  rw [HB9.out]
  rintro e w31 ⟨rfl, _⟩
  have HF : Hid (R = B8) := Lib.hid (by rw [HR0.out, HRc3.out, HRc6.out]; simp)
  go_wp2_with fail
  go_ret
  rw [HF.out]
  exact ⟨rfl, stepN⟩
end Go.Proofs.YtmnapacibpnodaaGreat
end
section
open Go Go.RowKit
namespace Go.Proofs.YtmnapacibpnodaaGreat
def fgV (s : RS) : Bool := decide (s.num.1 = 1)
def fgS (s : RS) : RS := if 1 < s.num.1 then RS.bad else s.num.2
end Go.Proofs.YtmnapacibpnodaaGreat
end
section
open Go Go.RowKit
namespace Go.Proofs.YtmnapacibpnodaaGreat
abbrev DlM := List UInt8 × (List H32 × Int) × List UInt8 × Bool
def DeleR.m (d : DeleR) : DlM := (d.l, d.k.m, d.pre, d.last)
/-- the way to take one -/
def dlTk (s : RS) : DlM × RS := ((s.row.1, (kL s.row.2, (kD s.row.2 : Int)), (kR s.row.2).row.1, fgV (kR s.row.2).row.2), fgS (kR s.row.2).row.2)
def dlME (x : DlM) : List UInt8 := encRow x.1 ++ (keyB x.2.1.1 x.2.1.2 ++ (encRow x.2.2.1 ++ flagE x.2.2.2))
end Go.Proofs.YtmnapacibpnodaaGreat
end
section
open Go Go.RowKit
namespace Go.Proofs.YtmnapacibpnodaaGreat
/-- each in rows of its own, apart from the row that they lie in -/
def KsD (w0 w : World) (A : Option Addr) (D : List DeleR) : Prop := ∀ x ∈ D, DIn w x ∧ NewA w0 x.k.A ∧ ∀ y, inRow x.k.A x.k.l y → ¬ rowOf A y
end Go.Proofs.YtmnapacibpnodaaGreat
end
section
open Go Go.RowKit
namespace Go.Proofs.YtmnapacibpnodaaGreat
/-- where the targets begin, where what is handed on -/
def tgsS (s : RS) : RS := s.row.2.at 2
end Go.Proofs.YtmnapacibpnodaaGreat
end
section
open Go Go.RowKit
namespace Go.Proofs.YtmnapacibpnodaaGreat
def dlOkM (x : DlM) : Bool := nameL x.1 && isB x.2.1.1 x.2.1.2 && nameE x.2.2.1
def tgsOkM (nm : List UInt8) (v e0 : Int) (P : List TargetR) (M : List DlM) : Bool := nameL nm && verB v && numB e0 && decide (P.length ≤ 16) && P.all tgOk && riseT P P.length && decide (M.length ≤ 16) && M.all dlOkM && allS (M.map Prod.fst) M.length
/-- the state behind the targets, behind all -/
def tgR1 (b : List UInt8) : RS := lstS tgTk 16 (tgsS (kindS 4 b))
def tgR2 (b : List UInt8) : RS := lstS dlTk 16 (tgR1 b)
def tgN (b : List UInt8) : List UInt8 := (kindS 4 b).row.1
def tgVv (b : List UInt8) : Nat := (kindS 4 b).row.2.num.1
def tgX (b : List UInt8) : Nat := ((kindS 4 b).row.2.at 1).num.1
def tgP (b : List UInt8) : List TargetR := lstL tgTk 16 (tgsS (kindS 4 b))
def tgD (b : List UInt8) : List DlM := lstL dlTk 16 (tgR1 b)
def tgsOkB (b : List UInt8) : Bool := wholeB (tgR2 b) && tgsOkM (tgN b) (tgVv b) (tgX b) (tgP b) (tgD b)
/-- what is decoded -/
def tgM (b : List UInt8) : List UInt8 × Int × Int × List TargetR × List DlM × Int := if tgsOkB b then (tgN b, (tgVv b : Int), (tgX b : Int), tgP b, tgD b, 0) else ([], 0, 0, [], [], 2)
def DecTg (b : List UInt8) (w : World) : Ending → World → Prop := fun e w' => Step nowhere w w' ∧ ∃ nm v x A n c C m q P D err, e = .returned (.tuple #[.agg #[.string (strL nm), .int .i64 v, .int .i64 x, .slice A n c, .slice C m q], .int .i64 err]) ∧ Hid ((nm, v, x, P, D.map DeleR.m, err) = tgM b ∧ (P.length = n ∧ n ≤ c ∧ n ≤ 16) ∧ D.length = m ∧ m ≤ q ∧ m ≤ 16) ∧ Hid (Rd w' A (cellsOf P) ∧ Rd w' C (cellsOf D) ∧ ∀ x ∈ D, DIn w' x ∧ NewA w x.k.A) ∧ NewA w A ∧ NewA w C
end Go.Proofs.YtmnapacibpnodaaGreat
end
section
open Go Go.RowKit
namespace Go.Proofs.YtmnapacibpnodaaGreat
theorem numI_fwd {v : Int} (h0 : 0 ≤ v) (h : v ≤ 4611686018427387904) (r : List UInt8) : (⟨encAll [v] ++ r, false⟩ : RS).num = (v.toNat, ⟨r, false⟩) := by
  have hc : clampN v = v.toNat := by unfold clampN; omega
  rw [encAll_one, hc, num_enc _ _ (by omega)]
theorem row_fwd (b r : List UInt8) (h : b.length ≤ 4611686018427387904) : (⟨encRow b ++ r, false⟩ : RS).row = (b, ⟨r, false⟩) := by
  unfold RS.row encRow
  rw [List.append_assoc, num_enc _ _ h]
  unfold RS.raw
  rw [if_neg (by
    rintro (h1 | h1 | h1)
    · cases h1
    · exact absurd h1 (by simp)
    · have h2 : ((b ++ r).length : Int) < (b.length : Int) := h1
      rw [List.length_append] at h2
      omega)]
  show ((b ++ r).take (b.length : Int).toNat, (⟨(b ++ r).drop (b.length : Int).toNat, false⟩ : RS)) = _
  rw [Int.toNat_natCast, List.take_left' rfl, List.drop_left' rfl]
theorem raw_fwd (h : H32) (r : List UInt8) : (⟨h.l ++ r, false⟩ : RS).raw 32 = (h.l, ⟨r, false⟩) := by
  unfold RS.raw
  rw [if_neg (by
    rintro (h1 | h1 | h1)
    · cases h1
    · omega
    · rw [List.length_append, h.len] at h1
      omega)]
  show ((h.l ++ r).take 32, (⟨(h.l ++ r).drop 32, false⟩ : RS)) = _
  rw [List.take_left' h.len, List.drop_left' h.len]
theorem hsh_fwd (h : H32) (r : List UInt8) : (⟨h.l ++ r, false⟩ : RS).hsh = h := by
  unfold RS.hsh
  rw [raw_fwd]
  exact H32.ext' (by rw [dif_pos (show (h.l, (⟨r, false⟩ : RS)).1.length = 32 from h.len)])
section
variable {α : Type} {tk : RS → α × RS} {ef : α → List UInt8}
end
theorem numB_in {v : Int} (h : numB v = true) : 0 ≤ v ∧ v ≤ 1073741824 := by
  unfold numB at h
  simp only [Bool.and_eq_true, decide_eq_true_eq] at h
  exact h
end Go.Proofs.YtmnapacibpnodaaGreat
end
