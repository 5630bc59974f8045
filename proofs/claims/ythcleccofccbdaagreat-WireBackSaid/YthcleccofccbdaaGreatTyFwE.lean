/- TgH, TgP, TgQ, TgR, TgI, TgJ, TgK, FwE -/
import Derived.Test.YthcleccofccbdaaGreatTyTgE
import Derived.Test.YthcleccofccbdaaGreatTyRoI
import Derived.Test.YthcleccofccbdaaGreatTyTgN
import Derived.Test.YthcleccofccbdaaGreatTyRoJ
import Derived.Test.YthcleccofccbdaaGreatTyTgM
section
open Go Go.RowKit
namespace Go.Proofs.YthcleccofccbdaaGreat
def DIn (w : World) (d : DeleR) : Prop := KIn w d.k
theorem DIn.nw {w0 w : World} [n : Nw w0 w] {d : DeleR} (h : DIn w0 d) : DIn w d := KIn.nw (w0 := w0) h
structure DInW (w : World) (d : DeleR) : Prop where
  rd : Rd w d.k.A (cellsOf d.k.l)
  len : d.k.l.length = d.k.n
  cap : d.k.n ≤ d.k.c
  le : d.k.n ≤ 4398046511104
theorem DInW.nw {w0 w : World} [n : Nw w0 w] {d : DeleR} (h : DInW w0 d) : DInW w d := ⟨h.rd.chg n.out (fun _ _ _ h => h), h.len, h.cap, h.le⟩
theorem DIn.w {w : World} {d : DeleR} (h : DIn w d) : DInW w d := ⟨KIn.rd h, KIn.len h, KIn.cap h, Nat.le_trans (KIn.le h) (by decide)⟩
def dlOk (d : DeleR) : Bool := nameL d.l && isB d.k.l d.k.need && nameE d.pre
def flagE (b : Bool) : List UInt8 := encAll [if b then 1 else 0]
def dlE (d : DeleR) : List UInt8 := encRow d.l ++ (keyB d.k.l d.k.need ++ (encRow d.pre ++ flagE d.last))
theorem dl_keys (d : DeleR) : ((RowC.enc d).toArray.toList.drop 1).take 2 = [.slice d.k.A d.k.n d.k.c, .int .i64 d.k.need] := rfl
set_option maxRecDepth 100000 in
set_option maxHeartbeats 1600000 in
theorem isDele_calls (d : DeleR) {w : World} (hd : DInW w d) :
    Calls Tryz.prog 93 #[.agg (RowC.enc d).toArray] w fun e w' => e = .returned (.bool (dlOk d)) ∧ Step nowhere w w' := by
  have HD := Lib.hid hd
  clear hd
  have hsz : (RowC.enc d).toArray.size = 5 := rfl
  have hon := enc_one d
  obtain ⟨R, hR⟩ : ∃ R, R = dlOk d := ⟨_, rfl⟩
  have HR0 : Hid (R = (nameL d.l && isB d.k.l d.k.need && nameE d.pre)) := Lib.hid hR
  rw [← hR]
  clear hR
  cases h0 : nameL d.l
  case false =>
    have HF : Hid (R = false) := Lib.hid (by rw [HR0.out, h0]; simp)
    go_enter Tryz.func93, Tryz.ntmps93
    go_wp2_with (first | ((with_reducible apply (wpl_box_agg (dst := some 1))); (exact rfl); intro zt wzt _ _ _) | ((with_reducible apply wpl_loadcellN); (exact rfl); infer_instance; (exact rfl)))
    refine (wname_calls (strL d.l) d.l rfl _).mono ?_
    rw [h0]
    rintro e w5 ⟨rfl, _⟩
    go_wp2_with (first | go_skip)
    go_ret
    rw [HF.out]
    exact ⟨rfl, stepN⟩
  cases h1 : isB d.k.l d.k.need
  case false =>
    have HF : Hid (R = false) := Lib.hid (by rw [HR0.out, h1]; simp)
    go_enter Tryz.func93, Tryz.ntmps93
    go_wp2_with (first | ((with_reducible apply (wpl_box_agg (dst := some 1))); (exact rfl); intro zt wzt _ _ _) | ((with_reducible apply wpl_loadcellN); (exact rfl); infer_instance; (exact rfl)))
    refine (wname_calls (strL d.l) d.l rfl _).mono ?_
    rw [h0]
    rintro e w5 ⟨rfl, _⟩
    go_wp2_with (first | ((with_reducible apply (wpl_loadpart (g := zt) (k := 1) (n := 2) (tb := 85) (cs := (RowC.enc d).toArray) (vs := [.slice d.k.A d.k.n d.k.c, .int .i64 d.k.need]))); (exact rfl); infer_instance; infer_instance; (exact (by decide)); (exact rfl); (exact rfl)) | ((with_reducible apply (wpl_guard (op := .load _ _))); (exact rfl)) | ((with_reducible apply (wpl_guard (op := .fieldAddr _ _ _))); (exact rfl)))
    have hr5 : HR w5 d.k.A (cellsOf d.k.l) := ⟨HD.out.rd.later (stepN (w0 := w)).chg⟩
    refine (wIsKeys_calls (l := d.k.l) d.k.need HD.out.len HD.out.cap HD.out.le).mono ?_
    rw [h1]
    rintro e w6 ⟨rfl, _⟩
    go_wp2_with (first | go_skip)
    go_ret
    rw [HF.out]
    exact ⟨rfl, stepN⟩
  have HF : Hid (R = nameE d.pre) := Lib.hid (by rw [HR0.out, h0, h1]; simp)
  clear HR0
  go_enter Tryz.func93, Tryz.ntmps93
  go_wp2_with (first | ((with_reducible apply (wpl_box_agg (dst := some 1))); (exact rfl); intro zt wzt _ _ _) | ((with_reducible apply wpl_loadcellN); (exact rfl); infer_instance; (exact rfl)))
  refine (wname_calls (strL d.l) d.l rfl _).mono ?_
  rw [h0]
  rintro e w5 ⟨rfl, _⟩
  go_wp2_with (first | ((with_reducible apply (wpl_loadpart (g := zt) (k := 1) (n := 2) (tb := 85) (cs := (RowC.enc d).toArray) (vs := [.slice d.k.A d.k.n d.k.c, .int .i64 d.k.need]))); (exact rfl); infer_instance; infer_instance; (exact (by decide)); (exact rfl); (exact rfl)) | ((with_reducible apply (wpl_guard (op := .load _ _))); (exact rfl)) | ((with_reducible apply (wpl_guard (op := .fieldAddr _ _ _))); (exact rfl)))
  have hr5 : HR w5 d.k.A (cellsOf d.k.l) := ⟨HD.out.rd.later (stepN (w0 := w)).chg⟩
  refine (wIsKeys_calls (l := d.k.l) d.k.need HD.out.len HD.out.cap HD.out.le).mono ?_
  rw [h1]
  rintro e w6 ⟨rfl, _⟩
  go_wp2_with (first | ((with_reducible apply (wpl_guard (op := .load _ _))); (exact rfl)) | ((with_reducible apply (wpl_guard (op := .fieldAddr _ _ _))); (exact rfl)) | ((with_reducible apply wpl_loadcellN); (exact rfl); infer_instance; (exact rfl)))
  refine (nameE_calls (strL d.pre) d.pre rfl _).mono ?_
  rintro e w7 ⟨rfl, _⟩
  go_wp2_with fail
  go_ret
  rw [HF.out]
  exact ⟨rfl, stepN⟩
set_option maxRecDepth 100000 in
set_option maxHeartbeats 1600000 in
theorem notDl_calls (k : DeleR) {w : World} {zi : Nat} {t : TypeId} [hz : HB w zi t #[.func (.func 93) #[] #[]]] (hk : DInW w k) :
    Calls Tryz.prog 149 #[.agg (RowC.enc k).toArray, .pointer (some ⟨zi, 0, none⟩)] w fun e w' => e = .returned (.bool (!dlOk k)) ∧ Step nowhere w w' := by
  have HK := Lib.hid hk
  clear hk
  have hsz : (RowC.enc k).toArray.size = 5 := rfl
  have hon := enc_one k
  go_enter Tryz.func149, Tryz.ntmps149
  go_wp2_with (first | ((with_reducible apply (wpl_box_agg (dst := some 2))); (exact rfl); intro zk wzk _ _ _) | ((with_reducible apply wpl_loadrow); (exact rfl); infer_instance; infer_instance; (first | (with_reducible assumption) | (with_reducible exact H32.size _) | (with_reducible exact enc_sz _ rfl) | kernel_rfl)) | ((with_reducible apply wpl_loadcellN); (exact rfl); infer_instance; (exact rfl)))
  refine (isDele_calls k (DInW.nw (w0 := w) HK.out)).mono ?_
  rintro e w5 ⟨rfl, _⟩
  go_wp2_with fail
  go_ret
  exact ⟨rfl, stepN⟩
set_option maxRecDepth 100000 in
set_option maxHeartbeats 1600000 in
theorem idxDl_calls {A : Option Addr} {n c zi : Nat} {t : TypeId} {K : List DeleR} {w : World} [hr : HR w A (cellsOf K)] [hz : HB w zi t #[.func (.func 93) #[] #[]]] (hK : ∀ k ∈ K, DInW w k) (hl : K.length = n) (hmax : n ≤ 1000000000) :
    Calls Tryz.prog 178 #[.slice A n c, .func (.func 149) #[] #[.pointer (some ⟨zi, 0, none⟩)]] w fun e w' => ∃ r : Int, e = .returned (.int .i64 r) ∧ (0 ≤ r ↔ K.any (fun k => !dlOk k) = true) ∧ Step nowhere w w' := by
  have HL := Lib.hid hl
  have HMI := Lib.hid hK
  obtain ⟨R, hR⟩ : ∃ R, R = K.any (fun k => !dlOk k) := ⟨_, rfl⟩
  rw [← hR]
  have HRR := Lib.hid hR
  clear hK hR
  go_enter Tryz.func178, Tryz.ntmps178
  go_wp2_with fail
  go_loopw [8] (fun kv wr => ∃ k : Nat, k ≤ n ∧ kv = .int .i64 (k : Int) ∧ Hid ((K.take k).any (fun k => !dlOk k) = false) ∧ Step nowhere w wr) (fun kv _ => n - (intOf kv).toNat)
  case atStart => exact ⟨0, Nat.zero_le _, rfl, Lib.hid rfl, stepN⟩
  case round =>
    obtain ⟨k, hk, rfl, HJ, _⟩ := hrel
    by_cases hlt : k < n
    · have hltI : (k : Int) < n := by omega
      have hkl : k < K.length := by omega
      have hmem : gt K k ∈ K := gt_mem K k hkl
      have HMK : Hid (DInW w (gt K k)) := Lib.hid (HMI.out _ hmem)
      have hts : (K.take (k + 1)).any (fun k => !dlOk k) = ((K.take k).any (fun k => !dlOk k) || !dlOk (gt K k)) := by
        rw [← List.take_append_getElem hkl, List.any_append]
        simp [gt, List.getD_eq_getElem?_getD, hkl]
      obtain ⟨V, hV⟩ : ∃ V, V = dlOk (gt K k) := ⟨_, rfl⟩
      rw [HJ.out, Bool.false_or, ← hV] at hts
      have HV := Lib.hid hV
      have HTS := Lib.hid hts
      have HAL : Hid (V = false → R = true) := Lib.hid (fun h => by rw [HRR.out]; exact List.any_eq_true.2 ⟨_, hmem, by rw [← hV, h]; rfl⟩)
      clear hmem hts hV
      go_wp2_with (first | ((with_reducible apply (wpl_indexE (α := DeleR) (t := 23))); (exact rfl); (exact rfl); infer_instance; infer_instance; (first | (with_reducible assumption) | omega | (focus (simp; done)) | (focus (simp; omega; done)) | decide); (exact rfl); (decide); (first | (with_reducible assumption) | omega | (focus (simp; done)) | (focus (simp; omega; done)) | decide)) | ((with_reducible apply (wpl_loadE (α := DeleR) (t := 85))); infer_instance; (exact rfl); infer_instance; (exact rfl); (decide); (first | (with_reducible assumption) | omega | (focus (simp; done)) | (focus (simp; omega; done)) | decide)))
      refine (notDl_calls (gt K k) (DInW.nw HMK.out)).mono ?_
      rw [← HV.out]
      rintro e w1 ⟨rfl, _⟩
      cases V with
      | false =>
        have HAR : Hid (R = true) := Lib.hid (HAL.out rfl)
        clear HAL
        go_wp2_with fail
        go_ret
        exact ⟨_, rfl, ⟨fun _ => HAR.out, fun _ => by omega⟩, stepN⟩
      | true =>
        go_wp2_with fail
        exact ⟨⟨k + 1, by omega, by go_num, HTS, stepN⟩, by simp [intOf]; omega⟩
    · have hltI : ¬ (k : Int) < n := by omega
      have HF : Hid (R = false) := Lib.hid (by
        have h1 := HJ.out
        rw [HRR.out]
        rwa [List.take_of_length_le (by omega)] at h1)
      go_wp2_with fail
      go_ret
      refine ⟨_, rfl, ⟨fun h => by simp at h, fun h => ?_⟩, stepN⟩
      rw [HF.out] at h
      cases h
set_option maxRecDepth 100000 in
set_option maxHeartbeats 1600000 in
theorem contDl_calls {A : Option Addr} {n c zi : Nat} {t : TypeId} {K : List DeleR} {w : World} [hr : HR w A (cellsOf K)] [hz : HB w zi t #[.func (.func 93) #[] #[]]] (hK : ∀ k ∈ K, DInW w k) (hl : K.length = n) (hmax : n ≤ 1000000000) :
    Calls Tryz.prog 148 #[.slice A n c, .func (.func 149) #[] #[.pointer (some ⟨zi, 0, none⟩)]] w fun e w' => e = .returned (.bool (K.any (fun k => !dlOk k))) ∧ Step nowhere w w' := by
  have HMI := Lib.hid hK
  clear hK
  go_enter Tryz.func148, Tryz.ntmps148
  go_wp2_with fail
  refine (idxDl_calls (K := K) (fun r hr => HMI.out r hr) hl hmax).mono ?_
  rintro e w1 ⟨r, rfl, hr, _⟩
  have hd : decide (0 ≤ r) = K.any (fun k => !dlOk k) := by rw [Bool.eq_iff_iff, decide_eq_true_eq]; exact hr
  have HD := Lib.hid hd
  clear hd hr
  go_wp2_with fail
  go_ret
  refine ⟨?_, stepN⟩
  rw [← HD.out]
  rfl
set_option maxRecDepth 100000 in
set_option maxHeartbeats 1600000 in
theorem allDl_calls {A : Option Addr} {n c : Nat} {K : List DeleR} {w : World} [hr : HR w A (cellsOf K)] (hK : ∀ k ∈ K, DInW w k) (hl : K.length = n) (hmax : n ≤ 1000000000) :
    Calls Tryz.prog 92 #[.slice A n c, .func (.func 93) #[] #[]] w fun e w' => e = .returned (.bool (K.all dlOk)) ∧ Step nowhere w w' := by
  have HMI := Lib.hid hK
  have hd : (!K.any (fun k => !dlOk k)) = K.all dlOk := by simp [List.all_eq_not_any_not]
  have HD := Lib.hid hd
  clear hK hd
  go_enter Tryz.func92, Tryz.ntmps92
  go_wp2_with (first | ((with_reducible apply (wpl_box (dst := some 3) (cs := #[.func (.func 93) #[] #[]]))); (exact rfl); (exact rfl); intro bl wbl _ _ _))
  refine (contDl_calls (K := K) (fun k hk => DInW.nw (w0 := w) (HMI.out k hk)) hl hmax).mono ?_
  rintro e w5 ⟨rfl, _⟩
  go_wp2_with fail
  go_ret
  refine ⟨?_, stepN⟩
  rw [← HD.out]
  rfl
set_option maxRecDepth 100000 in
set_option maxHeartbeats 1600000 in
theorem flag_calls (b : Bool) (w : World) :
    Calls Tryz.prog 154 #[.bool b] w (FldPost w (flagE b) nowhere) := by
  unfold FldPost flagE
  cases b
  all_goals
    go_enter Tryz.func154, Tryz.ntmps154
    go_wp2_with (first | ((with_reducible apply wpl_bslice); (exact run_int1 _ _); intro zb wb _ _ _))
  · refine (numsC (z := zb) (vs := [0]) rfl rfl (show 9 * 1 ≤ 1000000000 by decide)).mono ?_
    rintro e w5 ⟨f5, caps5, T5, rfl, _, hL5, hT5⟩
    have hzb : w.heap.size ≤ zb := (NewA.monoS (w0 := w) (NewA.of_born (z := zb) 0)).out ⟨zb, 0, none⟩ rfl
    go_wp2_with fail
    go_ret
    first | refine ⟨f5, caps5, T5, rfl, stepN, hL5, fun x hx => ?_⟩ | refine ⟨f5, caps5, rfl, stepN, T5, hL5, fun x hx => ?_⟩
    rcases hT5 x hx with h | rfl
    · exact .inl (Nat.le_trans (stepN (w0 := w)).chg.size h)
    · exact .inl hzb
  · refine (numsC (z := zb) (vs := [1]) rfl rfl (show 9 * 1 ≤ 1000000000 by decide)).mono ?_
    rintro e w5 ⟨f5, caps5, T5, rfl, _, hL5, hT5⟩
    have hzb : w.heap.size ≤ zb := (NewA.monoS (w0 := w) (NewA.of_born (z := zb) 0)).out ⟨zb, 0, none⟩ rfl
    go_wp2_with fail
    go_ret
    first | refine ⟨f5, caps5, T5, rfl, stepN, hL5, fun x hx => ?_⟩ | refine ⟨f5, caps5, rfl, stepN, T5, hL5, fun x hx => ?_⟩
    rcases hT5 x hx with h | rfl
    · exact .inl (Nat.le_trans (stepN (w0 := w)).chg.size h)
    · exact .inl hzb
set_option maxRecDepth 100000 in
set_option maxHeartbeats 1600000 in
theorem layDele_calls (d : DeleR) {w : World} (hd : DIn w d) :
    Calls Tryz.prog 100 #[.agg (RowC.enc d).toArray] w (FldPost w (dlE d) (inRow d.k.A d.k.l)) := by
  have HD := Lib.hid hd
  clear hd
  have hsz : (RowC.enc d).toArray.size = 5 := rfl
  have hon := enc_one d
  unfold FldPost
  go_enter Tryz.func100, Tryz.ntmps100
  go_wp2_with (first | ((with_reducible apply (wpl_box_agg (dst := some 1))); (exact rfl); intro zt wzt _ _ _))
  have hwz := (stepN (w0 := w) (w := wzt)).chg.size
  refine wp_region_N (nowhere) (by kernel_rfl) (fun wd _ _ => ?_)
  refine' takeH (i := 0) (v := _) rfl (by kernel_rfl) (by kernel_rfl) (by kernel_rfl) (fun _ _ _ h => h) (yields_of (by rfl) (fun w' _ => ?_)) inferInstance ?_
  rotate_left
  · (go_simp; try with_reducible rfl)
  try simp only [Act.put, sA]; try simp only [sB, sC]
  refine' takeH (i := 1) (v := _) rfl (by kernel_rfl) (by kernel_rfl) (by kernel_rfl) (fun _ _ _ h => h) (yields_of (by rfl) (fun w' _ => ?_)) inferInstance ?_
  rotate_left
  · ((with_reducible apply ev_loadcellN); (exact rfl); infer_instance; infer_instance; (exact rfl))
  try simp only [Act.put, sA]; try simp only [sB, sC]
  refine' takeH (i := 3) (v := _) rfl (by kernel_rfl) (by kernel_rfl) (by kernel_rfl) (fun _ _ _ h => h) (yields_of (by rfl) (fun w' _ => ?_)) inferInstance ?_
  rotate_left
  · (go_simp; try with_reducible rfl)
  try simp only [Act.put, sA]; try simp only [sB, sC]
  refine' takeH (i := 4) (v := _) rfl (by kernel_rfl) (by kernel_rfl) (by kernel_rfl) (fun _ _ _ h => h) (yields_of (by rfl) (fun w' _ => ?_)) inferInstance ?_
  rotate_left
  · ((with_reducible apply ev_loadMid); (exact rfl); infer_instance; infer_instance; (exact dl_keys _); (exact rfl); (decide))
  try simp only [Act.put, sA]; try simp only [sB, sC]
  refine' takeH (i := 6) (v := _) rfl (by kernel_rfl) (by kernel_rfl) (by kernel_rfl) (fun _ _ _ h => h) (yields_of (by rfl) (fun w' _ => ?_)) inferInstance ?_
  rotate_left
  · (go_simp; try with_reducible rfl)
  try simp only [Act.put, sA]; try simp only [sB, sC]
  refine' takeH (i := 7) (v := _) rfl (by kernel_rfl) (by kernel_rfl) (by kernel_rfl) (fun _ _ _ h => h) (yields_of (by rfl) (fun w' _ => ?_)) inferInstance ?_
  rotate_left
  · ((with_reducible apply ev_loadcellN); (exact rfl); infer_instance; infer_instance; (exact rfl))
  try simp only [Act.put, sA]; try simp only [sB, sC]
  refine' takeH (i := 9) (v := _) rfl (by kernel_rfl) (by kernel_rfl) (by kernel_rfl) (fun _ _ _ h => h) (yields_of (by rfl) (fun w' _ => ?_)) inferInstance ?_
  rotate_left
  · (go_simp; try with_reducible rfl)
  try simp only [Act.put, sA]; try simp only [sB, sC]
  refine' takeH (i := 10) (v := _) rfl (by kernel_rfl) (by kernel_rfl) (by kernel_rfl) (fun _ _ _ h => h) (yields_of (by rfl) (fun w' _ => ?_)) inferInstance ?_
  rotate_left
  · ((with_reducible apply ev_loadcellN); (exact rfl); infer_instance; infer_instance; (exact rfl))
  try simp only [Act.put, sA]; try simp only [sB, sC]
  refine goH (i := 2) (by kernel_rfl) rfl (fun K_ hK_ => ?_)
  go_simp
  refine (text_calls (strL d.l) d.l rfl _).mono ?_
  rintro e w4 ⟨f4, caps4, T4, rfl, _, hL4, hT4⟩
  refine hK_.out _ _ inferInstance (fun _ => ?_)
  clear hK_ K_
  try simp only [Act.put, sA]; try simp only [sB, sC]
  refine goH (i := 5) (by kernel_rfl) rfl (fun K_ hK_ => ?_)
  go_simp
  refine (layKeys_calls d.k (KIn.chg HD.out (stepN (w0 := w)).chg (fun _ _ h => h))).mono ?_
  rintro e w5 ⟨f5, caps5, T5, rfl, _, hL5, hT5⟩
  refine hK_.out _ _ inferInstance (fun _ => ?_)
  clear hK_ K_
  try simp only [Act.put, sA]; try simp only [sB, sC]
  refine goH (i := 8) (by kernel_rfl) rfl (fun K_ hK_ => ?_)
  go_simp
  refine (text_calls (strL d.pre) d.pre rfl _).mono ?_
  rintro e w6 ⟨f6, caps6, T6, rfl, _, hL6, hT6⟩
  refine hK_.out _ _ inferInstance (fun _ => ?_)
  clear hK_ K_
  try simp only [Act.put, sA]; try simp only [sB, sC]
  refine goH (i := 11) (by kernel_rfl) rfl (fun K_ hK_ => ?_)
  go_simp
  refine (flag_calls d.last _).mono ?_
  rintro e w7 ⟨f7, caps7, T7, rfl, _, hL7, hT7⟩
  refine hK_.out _ _ inferInstance (fun _ => ?_)
  clear hK_ K_
  try simp only [Act.put, sA]; try simp only [sB, sC]
  refine goH (i := 12) (by kernel_rfl) rfl (fun K_ hK_ => ?_)
  rw [if_pos (by kernel_rfl)]
  refine wpr_of_list ?_
  (first | ((with_reducible apply (stop_dst (dst := some 15))); (try simp only [Act.put, sA, sB, sC]); ((with_reducible apply (wpl_bslice (dst := some 15))); (exact run_fld4 _ _ _ _ _ _ _ _ _); intro zc wb _ _ _)))
  refine wpList_nil ?_
  unfold onlyN
  refine hK_.out _ _ inferInstance (fun _ => ?_)
  clear hK_ K_
  try simp only [Act.put, sA]; try simp only [sB, sC]
  refine goH (i := 13) (by kernel_rfl) rfl (fun K_ hK_ => ?_)
  go_simp
  refine (fields4 (z := zc) (hL4.later (stepN (w0 := w4)).chg (fun _ _ h => h)) (hL5.later (stepN (w0 := w5)).chg (fun _ _ h => h)) (hL6.later (stepN (w0 := w6)).chg (fun _ _ h => h)) (hL7.later (stepN (w0 := w7)).chg (fun _ _ h => h))).mono ?_
  rintro e w8 ⟨f8, caps8, T8, rfl, _, hL8, hT8⟩
  have hzc : w.heap.size ≤ zc := (NewA.monoS (w0 := w) (NewA.of_born (z := zc) 0)).out ⟨zc, 0, none⟩ rfl
  refine hK_.out _ _ inferInstance (fun _ => ?_)
  clear hK_ K_
  try simp only [Act.put, sA]; try simp only [sB, sC]
  refine' takeH (i := 14) (v := _) rfl (by kernel_rfl) (by kernel_rfl) (by kernel_rfl) (fun _ _ _ h => h) (yields_of (by rfl) (fun w' _ => ?_)) inferInstance ?_
  rotate_left
  · (go_simp; try with_reducible rfl)
  try simp only [Act.put, sA]; try simp only [sB, sC]
  refine wpAnyH_done (by kernel_rfl) ?_ _
  all_goals
    go_wp2_with fail
    go_ret
    first | refine ⟨f8, caps8, T8, rfl, stepN, hL8, fun x hx => ?_⟩ | refine ⟨f8, caps8, rfl, stepN, T8, hL8, fun x hx => ?_⟩
    rcases hT8 x hx with h | rfl | h | h | h | h
    · exact .inl (Nat.le_trans (stepN (w0 := w)).chg.size h)
    · exact .inl hzc
    · exact .inl (Nat.le_trans (stepN (w0 := w)).chg.size (hT4 x h))
    · rcases hT5 x h with h | h
      · exact .inl (Nat.le_trans (stepN (w0 := w)).chg.size h)
      · exact .inr h
    · exact .inl (Nat.le_trans (stepN (w0 := w)).chg.size (hT6 x h))
    · rcases hT7 x h with h | h
      · exact .inl (Nat.le_trans (stepN (w0 := w)).chg.size h)
      · exact h.elim
end Go.Proofs.YthcleccofccbdaaGreat
end
section
open Go Go.RowKit
namespace Go.Proofs.YthcleccofccbdaaGreat
def fgV (s : RS) : Bool := decide (s.num.1 = 1)
def fgS (s : RS) : RS := if 1 < s.num.1 then RS.bad else s.num.2
theorem fgS_le (s : RS) : (fgS s).b.length ≤ s.b.length := by
  unfold fgS
  split
  · exact Nat.zero_le _
  · exact RS.num_le s
theorem fg_back {s : RS} (h : (fgS s).e = false) : s.e = false ∧ s.b = flagE (fgV s) ++ (fgS s).b := by
  unfold fgS fgV at *
  by_cases h1 : 1 < s.num.1
  · rw [if_pos h1] at h
    cases h
  · rw [if_neg h1] at h ⊢
    obtain ⟨a1, a2⟩ := numB_back h
    refine ⟨a1, ?_⟩
    rcases (show s.num.1 = 0 ∨ s.num.1 = 1 by omega) with h2 | h2
    · rw [h2] at a2 ⊢
      exact a2
    · rw [h2] at a2 ⊢
      exact a2
set_option maxRecDepth 100000 in
set_option maxHeartbeats 1600000 in
theorem takeFlag_calls {g d : Nat} {s : RS} {w : World} (hw : RdrAt w g d s) (hl : s.b.length ≤ 140737488351232) :
    Calls Tryz.prog 157 #[.pointer (some ⟨g, 0, none⟩)] w fun e w' => e = .returned (.bool (fgV s)) ∧ Step (only g) w w' ∧ Hid (RdrAt w' g d (fgS s)) := by
  have HW0 := Lib.hid hw
  have HL := Lib.hid hl
  obtain ⟨N, hN⟩ : ∃ N, N = s.num.1 := ⟨_, rfl⟩
  have HV : Hid (fgV s = decide (N = 1)) := Lib.hid (by rw [fgV, hN])
  have HS : Hid (fgS s = if 1 < N then RS.bad else s.num.2) := Lib.hid (by rw [fgS, hN])
  have HN := Lib.hid hN
  clear hw hl hN
  go_enter Tryz.func157, Tryz.ntmps157
  go_wp2_with fail
  refine (Num_calls g d s w HW0.out (by have := HL.out; omega)).mono ?_
  rw [← HN.out]
  rintro e w2 ⟨rfl, h2, c2⟩
  have st2 : Step (only g) w w2 := ⟨c2.out⟩
  clear c2
  by_cases h1 : 1 < N
  · have h1I : 1 < (N : Int) := by omega
    have hF : ((N : Int) == 1) = false := by rw [beq_eq_false_iff_ne]; omega
    have HV2 : Hid (fgV s = false) := Lib.hid (by rw [HV.out, decide_eq_false (by omega)])
    have HS2 : Hid (fgS s = RS.bad) := Lib.hid (by rw [HS.out, if_pos h1])
    go_wp2_with (first | fail)
    refine (Bad_calls g d _ _ h2.out).mono ?_
    rintro e w3 ⟨rfl, h3, c3⟩
    have st3 : Step (only g) w2 w3 := ⟨c3.out⟩
    go_wp2_with (first | fail)
    go_ret
    rw [HV2.out, HS2.out]
    exact ⟨rfl, ⟨st2.chg.trans st3.chg (fun _ _ h => h)⟩, h3⟩
  · have h1I : ¬ 1 < (N : Int) := by omega
    have HS2 : Hid (fgS s = s.num.2) := Lib.hid (by rw [HS.out, if_neg h1])
    rcases (show N = 0 ∨ N = 1 by omega) with h0 | h0
    · have hF : ((N : Int) == 1) = false := by rw [beq_eq_false_iff_ne]; omega
      have HV2 : Hid (fgV s = false) := Lib.hid (by rw [HV.out, decide_eq_false (by omega)])
      clear h0
      go_wp2_with (first | fail)
      go_ret
      rw [HV2.out, HS2.out]
      exact ⟨rfl, st2, h2⟩
    · have hF : ((N : Int) == 1) = true := by rw [beq_iff_eq]; omega
      have HV2 : Hid (fgV s = true) := Lib.hid (by rw [HV.out, decide_eq_true h0])
      clear h0
      go_wp2_with (first | fail)
      go_ret
      rw [HV2.out, HS2.out]
      exact ⟨rfl, st2, h2⟩
end Go.Proofs.YthcleccofccbdaaGreat
end
section
open Go Go.RowKit
namespace Go.Proofs.YthcleccofccbdaaGreat
abbrev DlM := List UInt8 × (List H32 × Int) × List UInt8 × Bool
def DeleR.m (d : DeleR) : DlM := (d.l, d.k.m, d.pre, d.last)
/-- the way to take one -/
def dlTk (s : RS) : DlM × RS := ((s.row.1, (kL s.row.2, (kD s.row.2 : Int)), (kR s.row.2).row.1, fgV (kR s.row.2).row.2), fgS (kR s.row.2).row.2)
def dlME (x : DlM) : List UInt8 := encRow x.1 ++ (keyB x.2.1.1 x.2.1.2 ++ (encRow x.2.2.1 ++ flagE x.2.2.2))
theorem dlTakes : Takes dlTk dlME := ⟨fun s => by
  have h1 := RS.row_le s
  have h2 := kR_le s.row.2
  have h3 := RS.row_le (kR s.row.2)
  have h4 := fgS_le (kR s.row.2).row.2
  show (fgS (kR s.row.2).row.2).b.length ≤ _
  omega, fun s h => by
  obtain ⟨d1, d2⟩ := fg_back (s := (kR s.row.2).row.2) h
  obtain ⟨c1, c2⟩ := row_back (s := kR s.row.2) d1
  obtain ⟨b1, b2⟩ := key_back (s := s.row.2) c1
  obtain ⟨a1, a2⟩ := row_back (s := s) b1
  refine ⟨a1, ?_⟩
  show s.b = (encRow s.row.1 ++ (keyB (kL s.row.2) (kD s.row.2 : Int) ++ (encRow (kR s.row.2).row.1 ++ flagE (fgV (kR s.row.2).row.2)))) ++ (fgS (kR s.row.2).row.2).b
  rw [List.append_assoc, List.append_assoc, List.append_assoc, ← d2, ← c2, ← b2]
  exact a2⟩
theorem run_dlB (l pre : List UInt8) (k : KR) (b : Bool) (w : World) : (Instr.build 85 #[(0, .string (strL l)), (1, .agg (RowC.enc k).toArray), (2, .string (strL pre)), (3, .bool b)]).run Tryz.prog w = .ok (.agg (RowC.enc (⟨l, k, pre, b⟩ : DeleR)).toArray) w := by kernel_rfl
set_option maxRecDepth 100000 in
set_option maxHeartbeats 3200000 in
theorem takeDele_calls {g d : Nat} {s : RS} {w : World} (hw : RdrAt w g d s) (hl : s.b.length ≤ 140737488351232) :
    Calls Tryz.prog 112 #[.pointer (some ⟨g, 0, none⟩)] w fun e w' => ∃ x : DeleR, e = .returned (.agg (RowC.enc x).toArray) ∧ Step (only g) w w' ∧ Hid (RdrAt w' g d (dlTk s).2) ∧ Hid (x.m = (dlTk s).1) ∧ DIn w' x ∧ NewA w x.k.A := by
  have HW0 := Lib.hid hw
  have HL := Lib.hid hl
  have hgl := hw.lt
  have hdl := hw.dlt
  have hpl := dlTakes.le s
  obtain ⟨s1, hs1⟩ : ∃ x, x = s.row.2 := ⟨_, rfl⟩
  obtain ⟨s2, hs2⟩ : ∃ x, x = kR s1 := ⟨_, rfl⟩
  obtain ⟨s3, hs3⟩ : ∃ x, x = s2.row.2 := ⟨_, rfl⟩
  have e1 : s1.b.length ≤ s.b.length := by rw [hs1]; exact RS.row_le _
  have e2 : s2.b.length ≤ s1.b.length := by rw [hs2]; exact kR_le _
  have e3 : s3.b.length ≤ s2.b.length := by rw [hs3]; exact RS.row_le _
  obtain ⟨l, hl0⟩ : ∃ x, x = s.row.1 := ⟨_, rfl⟩
  obtain ⟨pre, hpre⟩ : ∃ x, x = s2.row.1 := ⟨_, rfl⟩
  obtain ⟨b, hb⟩ : ∃ x, x = fgV s3 := ⟨_, rfl⟩
  have HE : Hid ((dlTk s).2 = fgS s3) := Lib.hid (by rw [hs3, hs2, hs1]; rfl)
  have HM : Hid ((dlTk s).1 = (l, (kL s1, (kD s1 : Int)), pre, b)) := Lib.hid (by rw [hb, hpre, hl0, hs3, hs2, hs1]; rfl)
  have HP0 := Lib.hid hl0
  have HP2 := Lib.hid hpre
  have HP3 := Lib.hid hb
  have HS1 := Lib.hid hs1
  have HS2 := Lib.hid hs2
  have HS3 := Lib.hid hs3
  clear hw hl hl0 hpre hb hs1 hs2 hs3
  go_enter Tryz.func112, Tryz.ntmps112
  go_wp2_with (first | ((with_reducible apply (wpl_alloc (dst := some 2))); intro zo wzo _ _ _) | ((with_reducible apply wpl_alloc); intro z wz _ _ _) | ((with_reducible apply wpl_storerow); (exact rfl); (exact rfl); infer_instance; infer_instance; (first | (with_reducible assumption) | (with_reducible exact H32.size _) | (with_reducible exact enc_sz _ rfl) | kernel_rfl); (first | (with_reducible assumption) | (with_reducible exact H32.size _) | (with_reducible exact enc_sz _ rfl) | kernel_rfl); (first | (with_reducible exact u8s_one _) | (with_reducible assumption) | (with_reducible exact enc_one _) | kernel_rfl); intro ws _ _) | ((with_reducible apply wpl_storecell); (exact rfl); (exact rfl); infer_instance; (exact rfl); (first | (with_reducible assumption) | omega | (focus (simp; done)) | (focus (simp; omega; done)) | decide); intro ws _ _))
  have hzo : w.heap.size ≤ zo := Nat.le_of_eq (inferInstance : Born w zo).eq.symm
  have hzl := (inferInstance : HB wzo zo 85 zeroDl).out.lt
  have ozo : OffB (only g) zo := ⟨fun e => by have e' : zo = g := e; omega⟩
  refine (takeText_calls (HW0.out.chg (stepN (w0 := w)).chg (fun h => h) (fun h => h)) HL.out).mono ?_
  rw [← HP0.out, ← HS1.out]
  rintro e w2 ⟨rfl, st2, h2⟩
  have H2 := Lib.hid h2
  clear h2
  have hz2 := st2.chg.size
  go_wp2_with fail
  refine (takeKeys_calls H2.out (by have := HL.out; omega)).mono ?_
  rintro e w3 ⟨k, rfl, st3, h3, hkm, hk, hkA⟩
  rw [← HS2.out] at h3
  have HK := Lib.hid hk
  clear hk
  have hsk : (RowC.enc k).toArray.size = 2 := rfl
  have hok := enc_one k
  go_wp2_with fail
  refine (takeText_calls h3.out (by have := HL.out; omega)).mono ?_
  rw [← HP2.out, ← HS3.out]
  rintro e w4 ⟨rfl, st4, h4⟩
  have H4 := Lib.hid h4
  clear h4
  go_wp2_with fail
  refine (takeFlag_calls H4.out (by have := HL.out; omega)).mono ?_
  rw [← HP3.out, ← HE.out]
  rintro e w5 ⟨rfl, st5, h5⟩
  have hzo5 : HB w5 zo 85 zeroDl := inferInstance
  have kb := run_dlB l pre k b
  have hsz : (RowC.enc (⟨l, k, pre, b⟩ : DeleR)).toArray.size = 5 := rfl
  have hon := enc_one (⟨l, k, pre, b⟩ : DeleR)
  go_wp2_with (first | ((with_reducible apply wpl_build); (exact kb _)) | ((with_reducible apply wpl_alloc); intro z wz _ _ _) | ((with_reducible apply wpl_storerow); (exact rfl); (exact rfl); infer_instance; infer_instance; (first | (with_reducible assumption) | (with_reducible exact H32.size _) | (with_reducible exact enc_sz _ rfl) | kernel_rfl); (first | (with_reducible assumption) | (with_reducible exact H32.size _) | (with_reducible exact enc_sz _ rfl) | kernel_rfl); (first | (with_reducible exact u8s_one _) | (with_reducible assumption) | (with_reducible exact enc_one _) | kernel_rfl); intro ws _ _) | ((with_reducible apply wpl_storecell); (exact rfl); (exact rfl); infer_instance; (exact rfl); (first | (with_reducible assumption) | omega | (focus (simp; done)) | (focus (simp; omega; done)) | decide); intro ws _ _))
  have hcz : Chg (only zo) w5 ws := (inferInstance : Step (only zo) w5 ws).chg
  have hlow : ∀ x, inRow k.A k.l x → wzo.heap.size ≤ x := fun x ⟨_, ad, e, h⟩ => by
    have h9 := hkA.out ad e
    omega
  refine ret_row rfl rfl (n := 5) hsz rfl ⟨⟨l, k, pre, b⟩, rfl, stepC, ?_, ?_, ?_, ?_⟩
  · exact Lib.hid (h5.out.far hcz (m := w.heap.size) (fun x hx => by have hx' : x = zo := hx; omega) hgl (fun h => hdl (by
      intro h0
      rw [h0] at hpl
      exact h (List.eq_nil_of_length_eq_zero (by simpa using hpl)))))
  · exact Lib.hid (by
      rw [HM.out]
      show (l, k.m, pre, b) = _
      rw [hkm.out])
  · exact ((KIn.chg HK.out (st4.chg.trans st5.chg (fun _ _ h => h)) (fun x hx h => by
      have h8 := hlow x hx
      have h' : x = g := h
      have h9 := (stepN (w0 := w) (w := wzo)).chg.size
      omega)).chg hcz (fun x hx h => by
      have h8 := hlow x hx
      have h' : x = zo := h
      omega))
  · exact ⟨fun ad e => by
      have h9 := hkA.out ad e
      have h8 := (stepN (w0 := w) (w := wzo)).chg.size
      omega⟩
end Go.Proofs.YthcleccofccbdaaGreat
end
section
open Go Go.RowKit
namespace Go.Proofs.YthcleccofccbdaaGreat
theorem run_dl1 (r : DeleR) (w : World) : (Instr.buildSlice 23 1 #[(0, .agg (RowC.enc r).toArray)]).run Tryz.prog w = .ok (.slice (some ⟨w.heap.size, 0, none⟩) 1 1) (w.alloc (.cells (cellsOf [r]).toArray 85)) := by kernel_rfl
/-- each in rows of its own, apart from the row that they lie in -/
def KsD (w0 w : World) (A : Option Addr) (D : List DeleR) : Prop := ∀ x ∈ D, DIn w x ∧ NewA w0 x.k.A ∧ ∀ y, inRow x.k.A x.k.l y → ¬ rowOf A y
set_option maxRecDepth 100000 in
set_option maxHeartbeats 3200000 in
theorem takenD_calls {g d : Nat} {s : RS} {w : World} (hw : RdrAt w g d s) (hl : s.b.length ≤ 140737488351232) :
    Calls Tryz.prog 111 #[.pointer (some ⟨g, 0, none⟩), .int .i64 16, .func (.func 112) #[] #[]] w fun e w' => ∃ A n c, ∃ D : List DeleR, e = .returned (.slice A n c) ∧ Step (only g) w w' ∧ Hid (RdrAt w' g d (lstS dlTk 16 s)) ∧ HR w' A (cellsOf D) ∧ NewA w A ∧ Hid (D.map DeleR.m = lstL dlTk 16 s) ∧ Hid (∀ x ∈ D, DIn w' x ∧ NewA w x.k.A) ∧ Hid (D.length = n ∧ n ≤ c ∧ n ≤ 16) := by
  have HW0 := Lib.hid hw
  have HL := Lib.hid hl
  have hgl := hw.lt
  have hdl := hw.dlt
  obtain ⟨N, hN⟩ : ∃ N, N = s.num.1 := ⟨_, rfl⟩
  obtain ⟨S, hS1⟩ : ∃ S, S = s.num.2 := ⟨_, rfl⟩
  have HN := Lib.hid hN
  have HS := Lib.hid hS1
  have hSl : S.b.length ≤ 140737488351232 := by rw [hS1]; exact Nat.le_trans (RS.num_le s) hl
  have hSd : S.b ≠ [] → d < w.heap.size := fun h => hdl (num_ne (by rw [← hS1]; exact h))
  clear hw hl hN hS1
  go_enter Tryz.func111, Tryz.ntmps111
  go_wp2_with fail
  refine (Num_calls g d s w HW0.out (by have := HL.out; omega)).mono ?_
  rw [← HN.out, ← HS.out]
  rintro e w2 ⟨rfl, h2, c2⟩
  have st2 : Step (only g) w w2 := ⟨c2.out⟩
  clear c2
  by_cases h4 : 16 < N
  · have h4I : 16 < (N : Int) := by omega
    have HKM : Hid (lstS dlTk 16 s = RS.bad) := Lib.hid (by rw [lstS, if_pos (by rw [← HN.out]; exact h4)])
    have HKL : Hid (lstL dlTk 16 s = []) := Lib.hid (by rw [lstL, if_pos (by rw [← HN.out]; exact h4)])
    go_wp2_with (first | fail)
    refine (Bad_calls g d _ _ h2.out).mono ?_
    rintro e w3 ⟨rfl, h3, c3⟩
    have st3 : Step (only g) w2 w3 := ⟨c3.out⟩
    go_wp2_with (first | fail)
    go_ret
    refine ⟨none, 0, 0, [], rfl, ⟨st2.chg.trans st3.chg (fun _ _ h => h)⟩, ?_, ⟨Rd.nil _ _⟩, newA_none _, Lib.hid ?_, Lib.hid (fun x hx => by cases hx), Lib.hid ⟨rfl, Nat.le_refl _, by decide⟩⟩
    · rw [HKM.out]; exact h3
    · rw [HKL.out]; rfl
  · have h4I : ¬ 16 < (N : Int) := by omega
    have HKM : Hid (lstS dlTk 16 s = tkS dlTk S N) := Lib.hid (by rw [lstS, if_neg (by rw [← HN.out]; exact h4), ← HN.out, ← HS.out])
    have HKL : Hid (lstL dlTk 16 s = tkL dlTk S N) := Lib.hid (by rw [lstL, if_neg (by rw [← HN.out]; exact h4), ← HN.out, ← HS.out])
    have hcell0 : HO w2 85 5 none 0 0 (cellsOf ([] : List DeleR)) := ⟨Own.nil _ _ _⟩
    go_wp2_with (first | fail)
    go_loopw [8, 17] (fun lv iv wr => ∃ (k : Nat) (A1 : Option Addr) (c1 : Nat) (D : List DeleR), k ≤ N ∧ iv = .int .i64 (k : Int) ∧ lv = .slice A1 k c1 ∧ k ≤ c1 ∧ Step (only g) w wr ∧ HO wr 85 5 A1 k c1 (cellsOf D) ∧ NewA w A1 ∧ Hid (RdrAt wr g d (tkS dlTk S k)) ∧ Hid (D.map DeleR.m = tkL dlTk S k) ∧ Hid (KsD w wr A1 D)) (fun _ iv _ => N - (intOf iv).toNat)
    case atStart => exact ⟨0, none, 0, [], Nat.zero_le _, rfl, rfl, Nat.le_refl _, st2, hcell0, newA_none _, h2, Lib.hid rfl, Lib.hid (fun x hx => by cases hx)⟩
    case round =>
      clear st2 h2 hcell0
      obtain ⟨k, A1, c1, D, hk, rfl, rfl, hkc, st, hO, hA1, hR, hDm, hDk⟩ := hrel
      by_cases hlt : k < N
      · have hltI : (k : Int) < N := by omega
        have og : OffA (only g) A1 := ⟨fun ad e h => by have h' : ad.block = g := h; have := hA1.out ad e; omega⟩
        have hsl := dlTakes.tkS_le S k
        have hsk := dlTakes.tkS_le S (k + 1)
        go_wp2_with (first | fail)
        refine (takeDele_calls hR.out (by omega)).mono ?_
        rintro e w5 ⟨x, rfl, st5, h5, hxm, hxk, hxA⟩
        have H5 : Hid (RdrAt w5 g d (tkS dlTk S (k + 1))) := h5
        have HNX : Hid ((D ++ [x]).map DeleR.m = tkL dlTk S (k + 1)) := Lib.hid (by
          rw [List.map_append, hDm.out]
          show _ ++ [x.m] = _
          rw [hxm.out]
          rfl)
        have HXK := Lib.hid hxk
        have hlenD : D.length = k := by
          have h9 := congrArg List.length hDm.out
          rw [List.length_map, tkL_len] at h9
          exact h9
        have HLD := Lib.hid hlenD
        have n5w : SzLe w w5 := inferInstance
        have kb1 := run_dl1 x
        have hsx : (RowC.enc x).toArray.size = 5 := rfl
        have hox := enc_one x
        clear h5 hxk hlenD
        go_wp2_with (first | ((with_reducible apply (stop_dst (dst := some 23))); (try simp only [Act.put, sA, sB, sC]); ((with_reducible apply (wpl_bslice (dst := some 23))); (exact kb1 _); intro zb wb _ _ _)) | ((with_reducible apply (wpl_appendR (α := DeleR))); (exact rfl); (exact rfl); infer_instance; infer_instance; (exact HB.cells inferInstance); (exact rfl); (exact rfl); omega; (decide); (decide); intro A' c' wa _ _ hgr hcap))
        have hcA : Chg (rowOf A1) w5 wa := (inferInstance : Ch (rowOf A1) w5 wa).out
        have hb5 : w5.heap.size ≤ wb.heap.size := (inferInstance : SzLe w5 wb).out
        have hr5 : wr.heap.size ≤ w5.heap.size := st5.chg.size
        have hwr : w.heap.size ≤ wr.heap.size := st.chg.size
        have hA1lt : ∀ y, rowOf A1 y → y < wr.heap.size := fun y ⟨ad, e, h⟩ => by rw [← h]; exact hO.out.lt e
        have hxn : ∀ y, inRow x.k.A x.k.l y → wr.heap.size ≤ y := fun y ⟨_, ad, e, h⟩ => by rw [← h]; exact hxA.out ad e
        have hKD : Hid (KsD w wa A' (D ++ [x])) := Lib.hid (by
          intro z hz
          rcases List.mem_append.1 hz with h | h
          · obtain ⟨q1, q2, q3⟩ := hDk.out z h
            refine ⟨KIn.chg (KIn.chg q1 st5.chg (fun y hy h => ?_)) hcA q3, q2, fun y hy h => ?_⟩
            · obtain ⟨_, ad, e, h9⟩ := hy
              have h8 := q2.out ad e
              have h7 : y = g := h
              omega
            · have h6 := KIn.low q1 y hy
              rcases hgr.out with h9 | h9
              · rw [h9] at h; exact q3 y hy h
              · rw [h9] at h
                obtain ⟨ad, e, h8⟩ := h
                injection e with e
                subst e
                have h7 : wb.heap.size = y := h8
                omega
          · obtain rfl := List.mem_singleton.1 h
            refine ⟨KIn.chg HXK.out hcA (fun y hy h => ?_), ⟨fun ad e => Nat.le_trans hwr (hxA.out ad e)⟩, fun y hy h => ?_⟩
            · have h8 := hxn y hy
              have h9 := hA1lt y h
              omega
            · have h6 := KIn.low HXK.out y hy
              have h5 := hxn y hy
              rcases hgr.out with h9 | h9
              · rw [h9] at h
                have h4 := hA1lt y h
                omega
              · rw [h9] at h
                obtain ⟨ad, e, h8⟩ := h
                injection e with e
                subst e
                have h7 : wb.heap.size = y := h8
                omega)
        refine ⟨⟨k + 1, A', c', D ++ [x], by omega, by go_num, rfl, hcap, ⟨?_⟩, ?_, newA_grew inferInstance hA1 (Nat.le_trans n5w.out (inferInstance : SzLe w5 wb).out), Lib.hid ?_, HNX, hKD⟩, by simp [intOf]; omega⟩
        · exact (st.chg.trans st5.chg (fun _ _ h => h)).trans hcA (fun x hx ⟨ad, e, h⟩ => by have := hA1.out ad e; omega)
        · infer_instance
        · exact H5.out.far hcA (m := w.heap.size) (fun x ⟨ad, e, h⟩ => by rw [← h]; exact hA1.out ad e) hgl (fun h => hSd (by
            intro h0
            rw [h0] at hsk
            exact h (List.eq_nil_of_length_eq_zero (by simpa using hsk))))
      · have hltI : ¬ (k : Int) < N := by omega
        have hkn : k = N := by omega
        subst hkn
        have HRR := hR
        go_wp2_with (first | fail)
        go_ret
        first | refine ⟨A1, k, c1, rfl, st, ?_, D, ⟨hO.out.rd⟩, hA1, Lib.hid ?_, Lib.hid (fun x hx => ⟨(hDk.out x hx).1, (hDk.out x hx).2.1⟩), Lib.hid ⟨?_, hkc, by omega⟩⟩ | refine ⟨A1, k, c1, D, rfl, st, ?_, ⟨hO.out.rd⟩, hA1, Lib.hid ?_, Lib.hid (fun x hx => ⟨(hDk.out x hx).1, (hDk.out x hx).2.1⟩), Lib.hid ⟨?_, hkc, by omega⟩⟩
        · rw [HKM.out]; exact HRR
        · rw [HKL.out]; exact hDm.out
        · have h9 := congrArg List.length hDm.out
          rw [List.length_map, tkL_len] at h9
          exact h9
end Go.Proofs.YthcleccofccbdaaGreat
end
section
open Go Go.RowKit
namespace Go.Proofs.YthcleccofccbdaaGreat
abbrev Str := List UInt8
instance rowCStr : RowC Str := ⟨1, fun s => [.string (strL s)], fun _ => rfl, fun s u hu => by
  rw [List.mem_singleton.1 hu]
  rfl, []⟩
instance elemStr : ElemT Tryz.prog 157 9 1 16 (.string ⟨#[]⟩) := ⟨⟨Tryz.underlying157, by kernel_rfl, rfl, by decide⟩⟩
/-- no string twice, of the first -/
def allS (l : List Str) : Nat → Bool
  | 0 => true
  | k + 1 => allS l k && !decide (gt l k ∈ l.take k)
theorem allS_false (l : List Str) (k : Nat) (h : allS l k = false) : ∀ n, k ≤ n → allS l n = false
  | 0, hn => by
    obtain rfl : k = 0 := by omega
    exact h
  | n + 1, hn => by
    by_cases e : k = n + 1
    · subst e; exact h
    · rw [allS, allS_false l k h n (by omega), Bool.false_and]
theorem str_cell (l : List Str) (k : Nat) : nth (RowC.enc (gt l k)) 0 = some (.string (strL (gt l k))) := rfl
set_option maxRecDepth 100000 in
set_option maxHeartbeats 1600000 in
theorem indexS_calls {A : Option Addr} {n c : Nat} {l : List Str} (x : Str) {w : World} [hr : HR w A (cellsOf l)] (hl : l.length = n) (hmax : n ≤ 1000000000) :
    Calls Tryz.prog 179 #[.slice A n c, .string (strL x)] w fun e w' => ∃ r : Int, e = .returned (.int .i64 r) ∧ (0 ≤ r ↔ x ∈ l) ∧ Step nowhere w w' := by
  have HL := Lib.hid hl
  go_enter Tryz.func179, Tryz.ntmps179
  go_wp2_with fail
  go_loopw [8] (fun kv wr => ∃ k : Nat, k ≤ n ∧ kv = .int .i64 (k : Int) ∧ Hid (x ∉ l.take k) ∧ Step nowhere w wr) (fun kv _ => n - (intOf kv).toNat)
  case atStart => exact ⟨0, Nat.zero_le _, rfl, Lib.hid (by simp), stepN⟩
  case round =>
    obtain ⟨k, hk, rfl, HJ, _⟩ := hrel
    by_cases hlt : k < n
    · have hltI : (k : Int) < n := by omega
      have hkl : k < l.length := by omega
      have hmem : gt l k ∈ l := gt_mem l k hkl
      have HTK : Hid (l.take (k + 1) = l.take k ++ [gt l k]) := Lib.hid (by
        rw [← List.take_append_getElem hkl]
        simp [gt, List.getD_eq_getElem?_getD, hkl])
      by_cases hx : x = gt l k
      · have hE : ((strL x).toList == (strL (gt l k)).toList) = true := by rw [hx]; simp
        have HM : Hid (x ∈ l) := Lib.hid (by rw [hx]; exact hmem)
        clear hmem hx
        go_wp2_with (first | ((with_reducible apply (wpl_loadF (α := Str) (k := k) (j := 0) (s := 1))); infer_instance; (exact rfl); infer_instance; (exact rfl); (exact hkl); (exact str_cell _ _)) | ((with_reducible apply (wpl_indexE (α := Str) (t := 157))); (exact rfl); (exact rfl); infer_instance; infer_instance; (first | (with_reducible assumption) | omega | (focus (simp; done)) | (focus (simp; omega; done)) | decide); (exact rfl); (decide); (first | (with_reducible assumption) | omega | (focus (simp; done)) | (focus (simp; omega; done)) | decide)))
        go_ret
        exact ⟨_, rfl, ⟨fun _ => HM.out, fun _ => by omega⟩, stepN⟩
      · have hE : ((strL x).toList == (strL (gt l k)).toList) = false := by rw [strL_list, strL_list]; simpa using hx
        have HN : Hid (x ∉ l.take (k + 1)) := Lib.hid (by
          rw [HTK.out, List.mem_append, List.mem_singleton]
          rintro (h | h)
          · exact HJ.out h
          · exact hx h)
        clear hmem hx
        go_wp2_with (first | ((with_reducible apply (wpl_loadF (α := Str) (k := k) (j := 0) (s := 1))); infer_instance; (exact rfl); infer_instance; (exact rfl); (exact hkl); (exact str_cell _ _)) | ((with_reducible apply (wpl_indexE (α := Str) (t := 157))); (exact rfl); (exact rfl); infer_instance; infer_instance; (first | (with_reducible assumption) | omega | (focus (simp; done)) | (focus (simp; omega; done)) | decide); (exact rfl); (decide); (first | (with_reducible assumption) | omega | (focus (simp; done)) | (focus (simp; omega; done)) | decide)))
        exact ⟨⟨k + 1, by omega, by go_num, HN, stepN⟩, by simp [intOf]; omega⟩
    · have hltI : ¬ (k : Int) < n := by omega
      have HF : Hid (x ∉ l) := Lib.hid (by
        have h1 := HJ.out
        rwa [List.take_of_length_le (by have := HL.out; omega)] at h1)
      go_wp2_with fail
      go_ret
      exact ⟨_, rfl, ⟨fun h => by simp at h, fun h => absurd h HF.out⟩, stepN⟩
set_option maxRecDepth 100000 in
set_option maxHeartbeats 1600000 in
theorem containsS_calls {A : Option Addr} {n c : Nat} {l : List Str} (x : Str) {w : World} [hr : HR w A (cellsOf l)] (hl : l.length = n) (hmax : n ≤ 1000000000) :
    Calls Tryz.prog 150 #[.slice A n c, .string (strL x)] w fun e w' => e = .returned (.bool (decide (x ∈ l))) ∧ Step nowhere w w' := by
  go_enter Tryz.func150, Tryz.ntmps150
  go_wp2_with fail
  refine (indexS_calls (l := l) x hl hmax).mono ?_
  rintro e w1 ⟨r, rfl, hr, _⟩
  have hd : decide (0 ≤ r) = decide (x ∈ l) := decide_eq_decide.2 hr
  have HD := Lib.hid hd
  clear hd hr
  go_wp2_with fail
  go_ret
  refine ⟨?_, stepN⟩
  rw [← HD.out]
  rfl
set_option maxRecDepth 100000 in
set_option maxHeartbeats 1600000 in
theorem unlikeS_calls {A : Option Addr} {n c : Nat} {l : List Str} {w : World} [hr : HR w A (cellsOf l)] (hl : l.length = n) (hc : n ≤ c) (hmax : n ≤ 1000000000) :
    Calls Tryz.prog 94 #[.slice A n c] w fun e w' => e = .returned (.bool (allS l n)) ∧ Step nowhere w w' := by
  obtain ⟨R, hR⟩ : ∃ R, R = allS l n := ⟨_, rfl⟩
  have HRE := Lib.hid hR
  rw [← hR]
  clear hR
  go_enter Tryz.func94, Tryz.ntmps94
  go_wp2_with fail
  go_loopw [7] (fun kv wr => ∃ k : Nat, k ≤ n ∧ kv = .int .i64 (k : Int) ∧ Hid (allS l k = true) ∧ Step nowhere w wr) (fun kv _ => n - (intOf kv).toNat)
  case atStart => exact ⟨0, Nat.zero_le _, rfl, Lib.hid rfl, stepN⟩
  case round =>
    obtain ⟨k, hk, rfl, HA, _⟩ := hrel
    by_cases hlt : k < n
    · have hltI : (k : Int) < n := by omega
      have hkl : k < l.length := by omega
      have hkc : k ≤ c := by omega
      have HTL : Hid ((l.take k).length = k) := Lib.hid (by rw [List.length_take]; omega)
      obtain ⟨V, hV⟩ : ∃ V, V = decide (gt l k ∈ l.take k) := ⟨_, rfl⟩
      have HV := Lib.hid hV
      have HA2 : Hid (allS l (k + 1) = !V) := Lib.hid (by rw [allS, HA.out, hV, Bool.true_and])
      clear hV
      go_wp2_with (first | ((with_reducible apply (wpl_loadF (α := Str) (k := k) (j := 0) (s := 1))); infer_instance; (exact rfl); infer_instance; (exact rfl); (exact hkl); (exact str_cell _ _)) | ((with_reducible apply wpl_sl_h); (exact rfl); (exact rfl); infer_instance; (first | (with_reducible assumption) | omega)) | ((with_reducible apply (wpl_indexE (α := Str) (t := 157))); (exact rfl); (exact rfl); infer_instance; infer_instance; (first | (with_reducible assumption) | omega | (focus (simp; done)) | (focus (simp; omega; done)) | decide); (exact rfl); (decide); (first | (with_reducible assumption) | omega | (focus (simp; done)) | (focus (simp; omega; done)) | decide)))
      refine (containsS_calls (l := l.take k) (hr := HR.takeR inferInstance k) (gt l k) HTL.out (by omega)).mono ?_
      rw [← HV.out]
      rintro e w2 ⟨rfl, _⟩
      cases V
      case false =>
        go_wp2_with fail
        exact ⟨⟨k + 1, by omega, by go_num, Lib.hid (by rw [HA2.out]; rfl), stepN⟩, by simp [intOf]; omega⟩
      case true =>
        have HF : Hid (R = false) := Lib.hid (by rw [HRE.out]; exact allS_false l (k + 1) (by rw [HA2.out]; rfl) n hlt)
        go_wp2_with fail
        go_ret
        rw [HF.out]
        exact ⟨rfl, stepN⟩
    · have hltI : ¬ (k : Int) < n := by omega
      have hkn : k = n := by omega
      have HKN := Lib.hid hkn
      clear hkn
      go_wp2_with fail
      go_ret
      refine ⟨?_, stepN⟩
      rw [HRE.out, ← HKN.out, HA.out]
      rfl
end Go.Proofs.YthcleccofccbdaaGreat
end
section
open Go Go.RowKit
namespace Go.Proofs.YthcleccofccbdaaGreat
theorem run_str1T (s : Str) (w : World) : (Instr.buildSlice 157 1 #[(0, .string (strL s))]).run Tryz.prog w = .ok (.slice (some ⟨w.heap.size, 0, none⟩) 1 1) (w.alloc (.cells (cellsOf [s]).toArray 9)) := by kernel_rfl
def namesD (K : List DeleR) : List Str := K.map DeleR.l
theorem namesD_take (K : List DeleR) (k : Nat) (h : k < K.length) : namesD (K.take (k + 1)) = namesD (K.take k) ++ [(gt K k).l] := by
  rw [namesD, ← List.take_append_getElem h, List.map_append]
  simp [namesD, gt, List.getD_eq_getElem?_getD, h]
set_option maxRecDepth 100000 in
set_option maxHeartbeats 1600000 in
theorem names_calls {A : Option Addr} {n c : Nat} {K : List DeleR} {w : World} [hr : HR w A (cellsOf K)] (hl : K.length = n) (hmax : n ≤ 1000000) :
    Calls Tryz.prog 95 #[.slice A n c] w fun e w' => ∃ (A' : Option Addr) (c' : Nat), e = .returned (.slice A' n c') ∧ n ≤ c' ∧ HR w' A' (cellsOf (namesD K)) ∧ Step nowhere w w' := by
  have HL := Lib.hid hl
  have HRR := Lib.hid hr.out
  have hcell0 : HO w 9 1 none 0 0 (cellsOf ([] : List Str)) := ⟨Own.nil _ _ _⟩
  go_enter Tryz.func95, Tryz.ntmps95
  go_wp2_with fail
  go_loopw [3, 8] (fun ov iv wr => ∃ (k : Nat) (A1 : Option Addr) (c1 : Nat), k ≤ n ∧ iv = .int .i64 (k : Int) ∧ ov = .slice A1 k c1 ∧ k ≤ c1 ∧ Step nowhere w wr ∧ HO wr 9 1 A1 k c1 (cellsOf (namesD (K.take k))) ∧ NewA w A1) (fun _ iv _ => n - (intOf iv).toNat)
  case atStart => exact ⟨0, none, 0, Nat.zero_le _, rfl, rfl, Nat.le_refl _, stepN, hcell0, newA_none _⟩
  case round =>
    clear hcell0
    obtain ⟨k, A1, c1, hk, rfl, rfl, hkc, st, hO, hA1⟩ := hrel
    have nr : Nw w wr := ⟨st.chg⟩
    have hrA : HR wr A (cellsOf K) := ⟨HRR.out.later st.chg⟩
    by_cases hlt : k < n
    · have hltI : (k : Int) < n := by omega
      have hkl : k < K.length := by rw [HL.out]; exact hlt
      have hLL : K.length = n := HL.out
      have hsz : (RowC.enc (gt K k)).toArray.size = 5 := rfl
      have hon := enc_one (gt K k)
      have kb1 := run_str1T (gt K k).l
      have HNX : Hid (namesD (K.take (k + 1)) = namesD (K.take k) ++ [(gt K k).l]) := Lib.hid (namesD_take K k hkl)
      go_wp2_with (first | ((with_reducible apply (stop_dst (dst := some 15))); (try simp only [Act.put, sA, sB, sC]); ((with_reducible apply (wpl_bslice (dst := some 15))); (exact kb1 _); intro zb wb _ _ _)) | ((with_reducible apply (wpl_appendR (α := Str))); (exact rfl); (exact rfl); infer_instance; infer_instance; (exact HB.cells inferInstance); (exact rfl); (exact rfl); omega; (decide); (decide); intro A' c' wa _ _ _ hcap) | ((with_reducible apply (wpl_alloc (dst := some 5))); intro z5 wz5 _ _ _) | ((with_reducible apply wpl_loadcellN); (exact rfl); infer_instance; (exact rfl)) | ((with_reducible apply wpl_storerow); (exact rfl); (exact rfl); infer_instance; infer_instance; (first | (with_reducible assumption) | (with_reducible exact H32.size _) | (with_reducible exact enc_sz _ rfl) | kernel_rfl); (first | (with_reducible assumption) | (with_reducible exact H32.size _) | (with_reducible exact enc_sz _ rfl) | kernel_rfl); (first | (with_reducible exact u8s_one _) | (with_reducible assumption) | (with_reducible exact enc_one _) | kernel_rfl); intro ws _ _) | ((with_reducible apply (wpl_indexE (α := DeleR) (t := 23))); (exact rfl); (exact rfl); infer_instance; infer_instance; (first | (with_reducible assumption) | omega | (focus (simp; done)) | (focus (simp; omega; done)) | decide); (exact rfl); (decide); (first | (with_reducible assumption) | omega | (focus (simp; done)) | (focus (simp; omega; done)) | decide)) | ((with_reducible apply (wpl_loadE (α := DeleR) (t := 85))); infer_instance; (exact rfl); infer_instance; (exact rfl); (decide); (first | (with_reducible assumption) | omega | (focus (simp; done)) | (focus (simp; omega; done)) | decide)))
      have hcA : Chg (rowOf A1) wb wa := (inferInstance : Ch (rowOf A1) wb wa).out
      have nb : Nw wr wb := inferInstance
      refine ⟨⟨k + 1, A', c', by omega, by go_num, rfl, hcap, ⟨?_⟩, ?_, newA_grew inferInstance hA1 (Nat.le_trans st.chg.size nb.out.size)⟩, by simp [intOf]; omega⟩
      · exact (st.chg.trans nb.out (fun _ _ h => h)).trans hcA (fun x hx ⟨ad, e, h⟩ => by have := hA1.out ad e; omega)
      · rw [HNX.out]; infer_instance
    · have hltI : ¬ (k : Int) < n := by omega
      have hkn : k = n := by omega
      have HK : Hid (namesD (K.take k) = namesD K) := Lib.hid (by rw [List.take_of_length_le (by have := HL.out; omega)])
      subst hkn
      clear hrA
      go_wp2_with fail
      go_ret
      refine ⟨A1, c1, rfl, hkc, ?_, st⟩
      rw [← HK.out]
      exact ⟨hO.out.rd⟩
end Go.Proofs.YthcleccofccbdaaGreat
end
section
open Go Go.RowKit
namespace Go.Proofs.YthcleccofccbdaaGreat
def tgsOk (nm : List UInt8) (v e0 : Int) (P : List TargetR) (D : List DeleR) : Bool := nameL nm && verB v && numB e0 && decide (P.length ≤ 16) && P.all tgOk && riseT P P.length && decide (D.length ≤ 16) && D.all dlOk && allS (namesD D) D.length
set_option maxRecDepth 100000 in
set_option maxHeartbeats 6400000 in
theorem isTargets_calls (nm : List UInt8) (v e0 : Int) {A C : Option Addr} {n c m d : Nat} {P : List TargetR} {D : List DeleR} {w : World} [hr : HR w A (cellsOf P)] [hq : HR w C (cellsOf D)] (hl : P.length = n) (hm : D.length = m) (hmax : n ≤ 9223372036854775807) (hmaxm : m ≤ 9223372036854775807) (hD : ∀ k ∈ D, DInW w k) :
    Calls Tryz.prog 35 #[.agg #[.string (strL nm), .int .i64 v, .int .i64 e0, .slice A n c, .slice C m d]] w fun e w' => e = .returned (.bool (tgsOk nm v e0 P D)) ∧ Step nowhere w w' := by
  have HL := Lib.hid hl
  have HM := Lib.hid hm
  have HDI := Lib.hid hD
  obtain ⟨R, hR⟩ : ∃ R, R = tgsOk nm v e0 P D := ⟨_, rfl⟩
  have hR2 := hR
  rw [tgsOk] at hR2
  rw [← hR]
  obtain ⟨B0, hB0⟩ : ∃ B, B = nameL nm := ⟨_, rfl⟩
  obtain ⟨B1, hB1⟩ : ∃ B, B = verB v := ⟨_, rfl⟩
  obtain ⟨B2, hB2⟩ : ∃ B, B = numB e0 := ⟨_, rfl⟩
  obtain ⟨B3, hB3⟩ : ∃ B, B = decide (P.length ≤ 16) := ⟨_, rfl⟩
  obtain ⟨B4, hB4⟩ : ∃ B, B = P.all tgOk := ⟨_, rfl⟩
  obtain ⟨B5, hB5⟩ : ∃ B, B = riseT P P.length := ⟨_, rfl⟩
  obtain ⟨B6, hB6⟩ : ∃ B, B = decide (D.length ≤ 16) := ⟨_, rfl⟩
  obtain ⟨B7, hB7⟩ : ∃ B, B = D.all dlOk := ⟨_, rfl⟩
  obtain ⟨B8, hB8⟩ : ∃ B, B = allS (namesD D) D.length := ⟨_, rfl⟩
  rw [← hB0, ← hB1, ← hB2, ← hB3, ← hB4, ← hB5, ← hB6, ← hB7, ← hB8] at hR2
  have HR0 := Lib.hid hR2
  have HB0 := Lib.hid hB0
  have HB1 := Lib.hid hB1
  have HB2 := Lib.hid hB2
  have HB3 := Lib.hid hB3
  have HB4 := Lib.hid hB4
  have HB5 := Lib.hid hB5
  have HB6 := Lib.hid hB6
  have HB7 := Lib.hid hB7
  have HB8 := Lib.hid hB8
  clear hD hl hm hR hR2 hB0 hB1 hB2 hB3 hB4 hB5 hB6 hB7 hB8
  go_enter Tryz.func35, Tryz.ntmps35
  go_wp2_with (first | ((with_reducible apply (wpl_box_agg (dst := some 1))); (exact rfl); intro zt wzt _ _ _) | ((with_reducible apply wpl_loadcellN); (exact rfl); infer_instance; (exact rfl)))
  refine (wname_calls (strL nm) nm rfl _).mono ?_
  rw [← HB0.out]
  rintro e w10 ⟨rfl, _⟩
  cases B0
  case false =>
    have HF : Hid (R = false) := Lib.hid (by rw [HR0.out]; simp)
    go_wp2_with (first | go_skip)
    go_ret
    rw [HF.out]
    exact ⟨rfl, stepN⟩
  go_wp2_with (first | ((with_reducible apply (wpl_guard (op := .load _ _))); (exact rfl)) | ((with_reducible apply (wpl_guard (op := .fieldAddr _ _ _))); (exact rfl)) | ((with_reducible apply wpl_loadcellN); (exact rfl); infer_instance; (exact rfl)))
  refine (version_calls v _).mono ?_
  rw [← HB1.out]
  rintro e w11 ⟨rfl, _⟩
  cases B1
  case false =>
    have HF : Hid (R = false) := Lib.hid (by rw [HR0.out]; simp)
    go_wp2_with (first | go_skip)
    go_ret
    rw [HF.out]
    exact ⟨rfl, stepN⟩
  go_wp2_with (first | ((with_reducible apply (wpl_guard (op := .load _ _))); (exact rfl)) | ((with_reducible apply (wpl_guard (op := .fieldAddr _ _ _))); (exact rfl)) | ((with_reducible apply wpl_loadcellN); (exact rfl); infer_instance; (exact rfl)))
  refine (number_calls e0 _).mono ?_
  rw [← HB2.out]
  rintro e w12 ⟨rfl, _⟩
  cases B2
  case false =>
    by_cases h2 : n ≤ 16
    all_goals
      have h2I := h2
      have HF : Hid (R = false) := Lib.hid (by rw [HR0.out]; simp)
      go_wp2_with (first | go_skip)
      go_ret
      rw [HF.out]
      exact ⟨rfl, stepN⟩
  by_cases hc3 : n ≤ 16
  rotate_left
  focus
    have hcI : ¬ (n : Int) ≤ 16 := by omega
    have HF : Hid (R = false) := Lib.hid (by rw [HR0.out, HB3.out, decide_eq_false (show ¬ P.length ≤ 16 by have := HL.out; omega)]; simp)
    go_wp2_with (first | go_skip | ((with_reducible apply (wpl_guard (op := .call _))); (exact rfl)) | ((with_reducible apply (wpl_guard (op := .load _ _))); (exact rfl)) | ((with_reducible apply (wpl_guard (op := .fieldAddr _ _ _))); (exact rfl)) | ((with_reducible apply wpl_loadcellN); (exact rfl); infer_instance; (exact rfl)))
    go_ret
    rw [HF.out]
    exact ⟨rfl, stepN⟩
  have hcI3 : (n : Int) ≤ 16 := by omega
  have HRc3 : Hid (B3 = true) := Lib.hid (by rw [HB3.out, decide_eq_true (show P.length ≤ 16 by have := HL.out; omega)])
  go_wp2_with (first | ((with_reducible apply (wpl_guard (op := .load _ _))); (exact rfl)) | ((with_reducible apply (wpl_guard (op := .fieldAddr _ _ _))); (exact rfl)) | ((with_reducible apply wpl_loadcellN); (exact rfl); infer_instance; (exact rfl)))
  refine (allT_calls (K := P) HL.out hmax).mono ?_
  rw [← HB4.out]
  rintro e w14 ⟨rfl, _⟩
  cases B4
  case false =>
    have HF : Hid (R = false) := Lib.hid (by rw [HR0.out]; simp)
    go_wp2_with (first | go_skip)
    go_ret
    rw [HF.out]
    exact ⟨rfl, stepN⟩
  go_wp2_with (first | ((with_reducible apply (wpl_guard (op := .load _ _))); (exact rfl)) | ((with_reducible apply (wpl_guard (op := .fieldAddr _ _ _))); (exact rfl)) | ((with_reducible apply wpl_loadcellN); (exact rfl); infer_instance; (exact rfl)))
  refine (riseT_calls (P := P) HL.out hmax).mono ?_
  rw [← HB5.out]
  rintro e w15 ⟨rfl, _⟩
  cases B5
  case false =>
    by_cases h5 : m ≤ 16
    all_goals
      have h5I := h5
      have HF : Hid (R = false) := Lib.hid (by rw [HR0.out]; simp)
      go_wp2_with (first | go_skip)
      go_ret
      rw [HF.out]
      exact ⟨rfl, stepN⟩
  by_cases hc6 : m ≤ 16
  rotate_left
  focus
    have hcI : ¬ (m : Int) ≤ 16 := by omega
    have HF : Hid (R = false) := Lib.hid (by rw [HR0.out, HB6.out, decide_eq_false (show ¬ D.length ≤ 16 by have := HM.out; omega)]; simp)
    go_wp2_with (first | go_skip | ((with_reducible apply (wpl_guard (op := .call _))); (exact rfl)) | ((with_reducible apply (wpl_guard (op := .load _ _))); (exact rfl)) | ((with_reducible apply (wpl_guard (op := .fieldAddr _ _ _))); (exact rfl)) | ((with_reducible apply wpl_loadcellN); (exact rfl); infer_instance; (exact rfl)))
    go_ret
    rw [HF.out]
    exact ⟨rfl, stepN⟩
  have hcI6 : (m : Int) ≤ 16 := by omega
  have HRc6 : Hid (B6 = true) := Lib.hid (by rw [HB6.out, decide_eq_true (show D.length ≤ 16 by have := HM.out; omega)])
  go_wp2_with (first | ((with_reducible apply (wpl_guard (op := .load _ _))); (exact rfl)) | ((with_reducible apply (wpl_guard (op := .fieldAddr _ _ _))); (exact rfl)) | ((with_reducible apply wpl_loadcellN); (exact rfl); infer_instance; (exact rfl)))
  refine (allDl_calls (K := D) (fun r hr => DInW.nw (w0 := w) (HDI.out r hr)) HM.out (by omega)).mono ?_
  rw [← HB7.out]
  rintro e w17 ⟨rfl, _⟩
  cases B7
  case false =>
    have HF : Hid (R = false) := Lib.hid (by rw [HR0.out]; simp)
    go_wp2_with (first | go_skip)
    go_ret
    rw [HF.out]
    exact ⟨rfl, stepN⟩
  go_wp2_with (first | ((with_reducible apply (wpl_guard (op := .load _ _))); (exact rfl)) | ((with_reducible apply (wpl_guard (op := .fieldAddr _ _ _))); (exact rfl)) | ((with_reducible apply wpl_loadcellN); (exact rfl); infer_instance; (exact rfl)))
  refine (names_calls (K := D) HM.out (by omega)).mono ?_
  rintro e w30 ⟨A9, c9, rfl, hc9, hr9, _⟩
  have HC9 := Lib.hid hc9
  go_wp2_with fail
  refine (unlikeS_calls (l := namesD D) (by rw [namesD, List.length_map]; exact HM.out) HC9.out (by omega)).mono ?_
  have HB9 : Hid (allS (namesD D) m = B8) := Lib.hid (by rw [HB8.out, HM.out])
  rw [HB9.out]
  rintro e w31 ⟨rfl, _⟩
  have HF : Hid (R = B8) := Lib.hid (by rw [HR0.out, HRc3.out, HRc6.out]; simp)
  go_wp2_with fail
  go_ret
  rw [HF.out]
  exact ⟨rfl, stepN⟩
end Go.Proofs.YthcleccofccbdaaGreat
end
section
open Go Go.RowKit
namespace Go.Proofs.YthcleccofccbdaaGreat
theorem strL_sizeF (l : List UInt8) : (strL l).size = l.length := List.size_toArray ..
set_option maxRecDepth 100000 in
set_option maxHeartbeats 1600000 in
theorem rBefore_calls (a b : TargetR) (w : World) : Calls Tryz.prog 72 #[.agg (RowC.enc a).toArray, .agg (RowC.enc b).toArray] w fun e w' => e = .returned (.bool (tgLt a b)) ∧ Step nowhere w w' := by
  have hsa : (RowC.enc a).toArray.size = 37 := tgR_len a
  have hsb : (RowC.enc b).toArray.size = 37 := tgR_len b
  have hoa := enc_one a
  have hob := enc_one b
  obtain ⟨R, hR⟩ : ∃ R, R = tgLt a b := ⟨_, rfl⟩
  have HR0 : Hid (R = (Op.bytesLess a.l b.l || (decide (a.l = b.l) && Op.bytesLess a.ecu b.ecu))) := Lib.hid hR
  rw [← hR]
  clear hR
  obtain ⟨Y, hY⟩ : ∃ Y, Y = Op.bytesLess a.l b.l := ⟨_, rfl⟩
  obtain ⟨Z, hZ⟩ : ∃ Z, Z = Op.bytesLess a.ecu b.ecu := ⟨_, rfl⟩
  have h1 : Op.bytesLess (strL a.l).toList (strL b.l).toList = Y := by rw [strL_list, strL_list, hY]
  have h2 : Op.bytesLess (strL a.ecu).toList (strL b.ecu).toList = Z := by rw [strL_list, strL_list, hZ]
  by_cases hE : a.l = b.l
  · have HF : Hid (R = Z) := Lib.hid (by rw [HR0.out, hE, bytesLess_irr, ← hZ]; simp)
    have hn : ((strL a.l).toList == (strL b.l).toList) = true := by rw [hE]; simp
    clear hE hY hZ h1
    go_enter Tryz.func72, Tryz.ntmps72
    go_wp2_with (first | ((with_reducible apply (stop_dst (dst := some 6))); (with_reducible apply (wpl_loadcellN (k := 0))); (exact rfl); infer_instance; (exact tgc_0 _)) | ((with_reducible apply (stop_dst (dst := some 8))); (with_reducible apply (wpl_loadcellN (k := 0))); (exact rfl); infer_instance; (exact tgc_0 _)) | ((with_reducible apply (stop_dst (dst := some 16))); (with_reducible apply (wpl_loadcellN (k := 36))); (exact rfl); infer_instance; (exact tgc_36 _)) | ((with_reducible apply (stop_dst (dst := some 18))); (with_reducible apply (wpl_loadcellN (k := 36))); (exact rfl); infer_instance; (exact tgc_36 _)) | ((with_reducible apply (wpl_box_agg (dst := some 2))); (exact rfl); intro za wza _ _ _) | ((with_reducible apply (wpl_box_agg (dst := some 3))); (exact rfl); intro zb wzb _ _ _))
    go_ret
    rw [HF.out]
    exact ⟨rfl, stepN⟩
  · have HF : Hid (R = Y) := Lib.hid (by rw [HR0.out, decide_eq_false hE, ← hY]; simp)
    have hn : ((strL a.l).toList == (strL b.l).toList) = false := by
      rw [strL_list, strL_list, beq_eq_false_iff_ne]
      exact hE
    clear hE hY hZ h2
    go_enter Tryz.func72, Tryz.ntmps72
    go_wp2_with (first | ((with_reducible apply (stop_dst (dst := some 6))); (with_reducible apply (wpl_loadcellN (k := 0))); (exact rfl); infer_instance; (exact tgc_0 _)) | ((with_reducible apply (stop_dst (dst := some 8))); (with_reducible apply (wpl_loadcellN (k := 0))); (exact rfl); infer_instance; (exact tgc_0 _)) | ((with_reducible apply (stop_dst (dst := some 11))); (with_reducible apply (wpl_loadcellN (k := 0))); (exact rfl); infer_instance; (exact tgc_0 _)) | ((with_reducible apply (stop_dst (dst := some 13))); (with_reducible apply (wpl_loadcellN (k := 0))); (exact rfl); infer_instance; (exact tgc_0 _)) | ((with_reducible apply (wpl_box_agg (dst := some 2))); (exact rfl); intro za wza _ _ _) | ((with_reducible apply (wpl_box_agg (dst := some 3))); (exact rfl); intro zb wzb _ _ _))
    go_ret
    rw [HF.out]
    exact ⟨rfl, stepN⟩
/-- what the first targets come to, one by one -/
def tgPre (P : List TargetR) : Nat → Bool
  | 0 => true
  | k + 1 => tgPre P k && (tgOk (gt P k) && (decide (k = 0) || tgLt (gt P (k - 1)) (gt P k)))
theorem all_gt {α : Type} [RowC α] (f : α → Bool) (P : List α) (k : Nat) (h : k < P.length) : (P.take (k + 1)).all f = ((P.take k).all f && f (gt P k)) := by
  rw [← List.take_append_getElem h, List.all_append]
  simp [gt, List.getD_eq_getElem?_getD, h]
theorem tgPre_eq (P : List TargetR) : ∀ k, k ≤ P.length → tgPre P k = ((P.take k).all tgOk && riseT P k)
  | 0, _ => by simp [tgPre, riseT]
  | k + 1, h => by
    rw [tgPre, tgPre_eq P k (by omega), all_gt tgOk P k (by omega), riseT]
    cases (P.take k).all tgOk <;> cases riseT P k <;> cases tgOk (gt P k) <;> simp
theorem tgPre_no (P : List TargetR) (k : Nat) (h : tgPre P k = false) : ∀ n, k ≤ n → tgPre P n = false
  | 0, hn => by
    obtain rfl : k = 0 := by omega
    exact h
  | n + 1, hn => by
    by_cases e : k = n + 1
    · subst e; exact h
    · rw [tgPre, tgPre_no P k h n (by omega), Bool.false_and]
/-- no elder one of that name, of the first -/
def dlFree (D : List DeleR) (i : Nat) : Nat → Bool
  | 0 => true
  | k + 1 => dlFree D i k && !decide ((gt D k).l = (gt D i).l)
theorem dlFree_no (D : List DeleR) (i k : Nat) (h : dlFree D i k = false) : ∀ n, k ≤ n → dlFree D i n = false
  | 0, hn => by
    obtain rfl : k = 0 := by omega
    exact h
  | n + 1, hn => by
    by_cases e : k = n + 1
    · subst e; exact h
    · rw [dlFree, dlFree_no D i k h n (by omega), Bool.false_and]
def dlPre (D : List DeleR) : Nat → Bool
  | 0 => true
  | k + 1 => dlPre D k && (dlOk (gt D k) && dlFree D k k)
theorem dlPre_no (D : List DeleR) (k : Nat) (h : dlPre D k = false) : ∀ n, k ≤ n → dlPre D n = false
  | 0, hn => by
    obtain rfl : k = 0 := by omega
    exact h
  | n + 1, hn => by
    by_cases e : k = n + 1
    · subst e; exact h
    · rw [dlPre, dlPre_no D k h n (by omega), Bool.false_and]
theorem gt_names (D : List DeleR) (k : Nat) (h : k < D.length) : gt (namesD D) k = (gt D k).l := by
  simp [namesD, gt, List.getD_eq_getElem?_getD, h]
theorem dlFree_eq (D : List DeleR) (i : Nat) : ∀ k, k ≤ D.length → dlFree D i k = !decide ((gt D i).l ∈ (namesD D).take k)
  | 0, _ => by simp [dlFree]
  | k + 1, h => by
    have hk : k < (namesD D).length := by rw [namesD, List.length_map]; omega
    have hg := gt_names D k (by omega)
    have e : (namesD D).take (k + 1) = (namesD D).take k ++ [(gt D k).l] := by
      rw [← List.take_append_getElem hk, ← hg]
      simp [gt, List.getD_eq_getElem?_getD, hk]
    rw [dlFree, dlFree_eq D i k (by omega), e, Bool.eq_iff_iff]
    simp only [Bool.and_eq_true, Bool.not_eq_true', decide_eq_false_iff_not, List.mem_append, List.mem_singleton]
    exact ⟨fun ⟨a, b⟩ c => c.elim a (fun c => b c.symm), fun h => ⟨fun a => h (.inl a), fun b => h (.inr b.symm)⟩⟩
theorem dlPre_eq (D : List DeleR) : ∀ k, k ≤ D.length → dlPre D k = ((D.take k).all dlOk && allS (namesD D) k)
  | 0, _ => by simp [dlPre, allS]
  | k + 1, h => by
    rw [dlPre, dlPre_eq D k (by omega), all_gt dlOk D k (by omega), allS, dlFree_eq D k k (by omega), gt_names D k (by omega)]
    cases (D.take k).all dlOk <;> cases allS (namesD D) k <;> cases dlOk (gt D k) <;> simp
theorem tgsOk_pre (nm : List UInt8) (v e0 : Int) (P : List TargetR) (D : List DeleR) : tgsOk nm v e0 P D = (nameL nm && verB v && numB e0 && decide (P.length ≤ 16) && decide (D.length ≤ 16) && tgPre P P.length && dlPre D D.length) := by
  rw [tgPre_eq P _ (Nat.le_refl _), dlPre_eq D _ (Nat.le_refl _), List.take_length, List.take_length, tgsOk]
  cases nameL nm <;> cases verB v <;> cases numB e0 <;> cases decide (P.length ≤ 16) <;> cases P.all tgOk <;> cases riseT P P.length <;> cases decide (D.length ≤ 16) <;> cases D.all dlOk <;> simp
end Go.Proofs.YthcleccofccbdaaGreat
end
