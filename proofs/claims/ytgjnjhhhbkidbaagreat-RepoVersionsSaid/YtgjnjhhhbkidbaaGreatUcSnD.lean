/- SnA, SnC, SnD -/
import Derived.Test.YtgjnjhhhbkidbaaGreatUcSnM
import Derived.Test.YtgjnjhhhbkidbaaGreatUcRoH
import Derived.Test.YtgjnjhhhbkidbaaGreatUcWuC
import Derived.Test.YtgjnjhhhbkidbaaGreatUcWsB
section
open Go Go.RowKit
namespace Go.Proofs.YtgjnjhhhbkidbaaGreat
instance elemPin : ElemT Tryz.prog 57 68 2 24 (.agg #[.string ⟨#[]⟩, .int .i64 0]) := ⟨⟨Tryz.underlying57, by kernel_rfl, rfl, by decide⟩⟩
instance rowTPin : RowT Tryz.prog 68 2 := ⟨by kernel_rfl, _, Tryz.underlying68, rfl⟩
instance zeroPin : ZeroT Tryz.prog 68 #[.string ⟨#[]⟩, .int .i64 0] := ⟨.agg #[.string ⟨#[]⟩, .int .i64 0], fun _ => by kernel_rfl, rfl⟩
instance rowTSnap : RowT Tryz.prog 59 3 := ⟨by kernel_rfl, _, Tryz.underlying59, rfl⟩
instance zeroSnap : ZeroT Tryz.prog 59 #[.int .i64 0, .int .i64 0, .slice none 0 0] := ⟨.agg #[.int .i64 0, .int .i64 0, .slice none 0 0], fun _ => by kernel_rfl, rfl⟩
instance cellPins : CellT Tryz.prog 57 := ⟨fun _ => by kernel_rfl, fun _ => by kernel_rfl⟩
instance cellFPinB : CellT Tryz.prog 205 := ⟨fun _ => by kernel_rfl, fun _ => by kernel_rfl⟩
instance cellFPin : CellT Tryz.prog 209 := ⟨fun _ => by kernel_rfl, fun _ => by kernel_rfl⟩
set_option maxRecDepth 100000 in
set_option maxHeartbeats 1600000 in
theorem isPin_calls (k : PinR) (w : World) :
    Calls Tryz.prog 126 #[.agg (RowC.enc k).toArray] w fun e w' => e = .returned (.bool (pinOk k)) ∧ Step nowhere w w' := by
 have hsz : (RowC.enc k).toArray.size = 2 := rfl
 unfold pinOk
 rcases h1 : nameL k.l with _ | _
 · rw [Bool.false_and]
   go_enter Tryz.func126, Tryz.ntmps126
   go_wp2_with (first | ((with_reducible apply (wpl_box_agg (dst := some 1))); exact rfl; intro zp wzp _ _ _) | ((with_reducible apply wpl_loadcellN); exact rfl; infer_instance; exact rfl))
   refine (wname_calls (strL k.l) k.l rfl _).mono ?_
   rw [h1]
   rintro e w5 ⟨rfl, _⟩
   go_wp2_with (first | go_skip)
   go_ret
   exact ⟨rfl, stepN⟩
 · rw [Bool.true_and]
   go_enter Tryz.func126, Tryz.ntmps126
   go_wp2_with (first | ((with_reducible apply (wpl_box_agg (dst := some 1))); exact rfl; intro zp wzp _ _ _) | ((with_reducible apply wpl_loadcellN); exact rfl; infer_instance; exact rfl))
   refine (wname_calls (strL k.l) k.l rfl _).mono ?_
   rw [h1]
   rintro e w5 ⟨rfl, _⟩
   go_wp2_with (first | ((with_reducible apply (wpl_guard (op := .load _ _))); exact rfl) | ((with_reducible apply (wpl_guard (op := .fieldAddr _ _ _))); exact rfl) | ((with_reducible apply wpl_loadcellN); exact rfl; infer_instance; exact rfl))
   refine (version_calls k.v _).mono ?_
   rintro e w6 ⟨rfl, _⟩
   go_wp2_with fail
   go_ret
   exact ⟨rfl, stepN⟩
set_option maxRecDepth 100000 in
set_option maxHeartbeats 1600000 in
theorem notP_calls (k : PinR) {w : World} {zi : Nat} {t : TypeId} [hz : HB w zi t #[.func (.func 126) #[] #[]]] :
    Calls Tryz.prog 172 #[.agg (RowC.enc k).toArray, .pointer (some ⟨zi, 0, none⟩)] w fun e w' => e = .returned (.bool (!pinOk k)) ∧ Step nowhere w w' := by
 have hsz := enc_sz k (n := RowC.size PinR) rfl
 have hon := enc_one k
 go_enter Tryz.func172, Tryz.ntmps172
 go_wp2_with (first | ((with_reducible apply (wpl_box_agg (dst := some 2))); exact rfl; intro zk wzk _ _ _) | ((with_reducible apply wpl_loadrow); exact rfl; infer_instance; infer_instance; (first | (with_reducible assumption) | (with_reducible exact H32.size _) | (with_reducible exact enc_sz _ rfl) | kernel_rfl)) | ((with_reducible apply wpl_loadcellN); exact rfl; infer_instance; exact rfl))
 refine (isPin_calls k _).mono ?_
 rintro e w5 ⟨rfl, _⟩
 go_wp2_with fail
 go_ret
 exact ⟨rfl, stepN⟩
set_option maxRecDepth 100000 in
set_option maxHeartbeats 1600000 in
theorem idxP_calls {A : Option Addr} {n c zi : Nat} {t : TypeId} {K : List PinR} {w : World} [hr : HR w A (cellsOf K)] [hz : HB w zi t #[.func (.func 126) #[] #[]]] (hl : K.length = n) (hmax : n ≤ 9223372036854775807) :
    Calls Tryz.prog 194 #[.slice A n c, .func (.func 172) #[] #[.pointer (some ⟨zi, 0, none⟩)]] w fun e w' => ∃ r : Int, e = .returned (.int .i64 r) ∧ (0 ≤ r ↔ K.any (fun k => !pinOk k) = true) ∧ Step nowhere w w' := by
 have HL := Lib.hid hl
 obtain ⟨R, hR⟩ : ∃ R, R = K.any (fun k => !pinOk k) := ⟨_, rfl⟩
 rw [← hR]
 have HRR := Lib.hid hR
 clear hR
 go_enter Tryz.func194, Tryz.ntmps194
 go_wp2_with fail
 go_loopw [8] (fun kv wr => ∃ k : Nat, k ≤ n ∧ kv = .int .i64 (k : Int) ∧ Hid ((K.take k).any (fun k => !pinOk k) = false) ∧ Step nowhere w wr) (fun kv _ => n - (intOf kv).toNat)
 case atStart => exact ⟨0, Nat.zero_le _, rfl, Lib.hid rfl, stepN⟩
 case round =>
  obtain ⟨k, hk, rfl, HJ, _⟩ := hrel
  by_cases hlt : k < n
  · have hltI : (k : Int) < n := by omega
    have hkl : k < K.length := by omega
    have hmem : gt K k ∈ K := gt_mem K k hkl
    have hts : (K.take (k + 1)).any (fun k => !pinOk k) = ((K.take k).any (fun k => !pinOk k) || !pinOk (gt K k)) := by
     rw [← List.take_append_getElem hkl, List.any_append]
     simp [gt, List.getD_eq_getElem?_getD, hkl]
    obtain ⟨V, hV⟩ : ∃ V, V = pinOk (gt K k) := ⟨_, rfl⟩
    rw [HJ.out, Bool.false_or, ← hV] at hts
    have HV := Lib.hid hV
    have HTS := Lib.hid hts
    have HAL : Hid (V = false → R = true) := Lib.hid (fun h => by rw [HRR.out]; exact List.any_eq_true.2 ⟨_, hmem, by rw [← hV, h]; rfl⟩)
    clear hmem hts hV
    go_wp2_with (first | ((with_reducible apply (wpl_indexE (α := PinR) (t := 57))); exact rfl; exact rfl; infer_instance; infer_instance; (first | (with_reducible assumption) | omega | (focus (simp; done)) | (focus (simp; omega; done)) | decide); exact rfl; (decide); (first | (with_reducible assumption) | omega | (focus (simp; done)) | (focus (simp; omega; done)) | decide)) | ((with_reducible apply (wpl_loadE (α := PinR) (t := 68))); infer_instance; exact rfl; infer_instance; exact rfl; (decide); (first | (with_reducible assumption) | omega | (focus (simp; done)) | (focus (simp; omega; done)) | decide)))
    refine (notP_calls (gt K k)).mono ?_
    rw [← HV.out]
    rintro e w1 ⟨rfl, _⟩
    cases V with
    | false =>
     have HAR : Hid (R = true) := Lib.hid (HAL.out rfl)
     clear HAL
     go_wp2_with fail
     go_ret
     exact ⟨_, rfl, ⟨fun _ => HAR.out, fun _ => by omega⟩, stepN⟩
    | true =>
     go_wp2_with fail
     exact ⟨⟨k + 1, by omega, by go_num, HTS, stepN⟩, by simp [intOf]; omega⟩
  · have hltI : ¬ (k : Int) < n := by omega
    have HF : Hid (R = false) := Lib.hid (by
     have h1 := HJ.out
     rw [HRR.out]
     rwa [List.take_of_length_le (by omega)] at h1)
    go_wp2_with fail
    go_ret
    refine ⟨_, rfl, ⟨fun h => by simp at h, fun h => ?_⟩, stepN⟩
    rw [HF.out] at h
    cases h
set_option maxRecDepth 100000 in
set_option maxHeartbeats 1600000 in
theorem contP_calls {A : Option Addr} {n c zi : Nat} {t : TypeId} {K : List PinR} {w : World} [hr : HR w A (cellsOf K)] [hz : HB w zi t #[.func (.func 126) #[] #[]]] (hl : K.length = n) (hmax : n ≤ 9223372036854775807) :
    Calls Tryz.prog 171 #[.slice A n c, .func (.func 172) #[] #[.pointer (some ⟨zi, 0, none⟩)]] w fun e w' => e = .returned (.bool (K.any (fun k => !pinOk k))) ∧ Step nowhere w w' := by
 go_enter Tryz.func171, Tryz.ntmps171
 go_wp2_with fail
 refine (idxP_calls (K := K) hl hmax).mono ?_
 rintro e w1 ⟨r, rfl, hr, _⟩
 have hd : decide (0 ≤ r) = K.any (fun k => !pinOk k) := by rw [Bool.eq_iff_iff, decide_eq_true_eq]; exact hr
 have HD := Lib.hid hd
 clear hd hr
 go_wp2_with fail
 go_ret
 refine ⟨?_, stepN⟩
 rw [← HD.out]
 rfl
set_option maxRecDepth 100000 in
set_option maxHeartbeats 1600000 in
theorem allP_calls {A : Option Addr} {n c : Nat} {K : List PinR} {w : World} [hr : HR w A (cellsOf K)] (hl : K.length = n) (hmax : n ≤ 9223372036854775807) :
    Calls Tryz.prog 125 #[.slice A n c, .func (.func 126) #[] #[]] w fun e w' => e = .returned (.bool (K.all pinOk)) ∧ Step nowhere w w' := by
 have hd : (!K.any (fun k => !pinOk k)) = K.all pinOk := by simp [List.all_eq_not_any_not]
 have HD := Lib.hid hd
 clear hd
 go_enter Tryz.func125, Tryz.ntmps125
 go_wp2_with (first | ((with_reducible apply (wpl_box (dst := some 3) (cs := #[.func (.func 126) #[] #[]]))); exact rfl; exact rfl; intro bl wbl _ _ _))
 refine (contP_calls (K := K) hl hmax).mono ?_
 rintro e w5 ⟨rfl, _⟩
 go_wp2_with fail
 go_ret
 refine ⟨?_, stepN⟩
 rw [← HD.out]
 rfl
theorem isNaN_calls (s : ByteArray) (w : World) : Calls Tryz.prog 182 #[.string s] w fun e w' => e = .returned (.bool false) ∧ w' = w := by
 have h : (!(s.toList == s.toList)) = false := by simp
 have h2 : (s.toList == s.toList) = true := by simp
 go_enter Tryz.func182, Tryz.ntmps182
 go_wp2_with fail
 go_ret
 exact ⟨rfl, rfl⟩
set_option maxRecDepth 100000 in
set_option maxHeartbeats 1600000 in
theorem compareS_calls (a b : List UInt8) (w : World) : Calls Tryz.prog 140 #[.string (strL a), .string (strL b)] w fun e w' => ∃ r : Int, e = .returned (.int .i64 r) ∧ (r < 0 ↔ Op.bytesLess a b = true) ∧ w' = w := by
 cases hlt : Op.bytesLess a b
 case true =>
  have h1 : Op.bytesLess (strL a).toList (strL b).toList = true := by rw [strL_list, strL_list]; exact hlt
  go_enter Tryz.func140, Tryz.ntmps140
  go_wp2_with fail
  refine (isNaN_calls _ _).mono ?_
  rintro e w1 ⟨rfl, rfl⟩
  go_wp2_with fail
  refine (isNaN_calls _ _).mono ?_
  rintro e w1 ⟨rfl, rfl⟩
  go_wp2_with fail
  go_ret
  exact ⟨-1, rfl, ⟨fun _ => by first | trivial | rfl, fun _ => by decide⟩, rfl⟩
 case false =>
  have h1 : Op.bytesLess (strL a).toList (strL b).toList = false := by rw [strL_list, strL_list]; exact hlt
  obtain ⟨G, hG⟩ : ∃ G, G = !(Op.bytesLess (strL a).toList (strL b).toList || (strL a).toList == (strL b).toList) := ⟨_, rfl⟩
  have h2 : ∀ w, (binOp .gtr 9 (.string (strL a)) (.string (strL b))).run Tryz.prog w = .ok (.bool G) w := fun w => by
   rw [hG]
   simp [binOp, Op.stringOp]
  clear hG
  cases G
  all_goals
   go_enter Tryz.func140, Tryz.ntmps140
   go_wp2_with fail
   refine (isNaN_calls _ _).mono ?_
   rintro e w1 ⟨rfl, rfl⟩
   go_wp2_with fail
   refine (isNaN_calls _ _).mono ?_
   rintro e w1 ⟨rfl, rfl⟩
   go_wp2_with fail
   go_ret
   refine ⟨_, rfl, ⟨fun h => absurd h (by decide), fun h => by first | cases h | simp at h⟩, rfl⟩
set_option maxRecDepth 100000 in
set_option maxHeartbeats 1600000 in
theorem comparePins_calls (a b : PinR) (w : World) : Calls Tryz.prog 128 #[.agg (RowC.enc a).toArray, .agg (RowC.enc b).toArray] w fun e w' => ∃ r : Int, e = .returned (.int .i64 r) ∧ (r < 0 ↔ pinLt a b = true) ∧ Step nowhere w w' := by
 have hsa : (RowC.enc a).toArray.size = 2 := rfl
 have hsb : (RowC.enc b).toArray.size = 2 := rfl
 go_enter Tryz.func128, Tryz.ntmps128
 go_wp2_with (first | ((with_reducible apply (wpl_box_agg (dst := some 2))); exact rfl; intro za wza _ _ _) | ((with_reducible apply (wpl_box_agg (dst := some 3))); exact rfl; intro zb wzb _ _ _) | ((with_reducible apply wpl_loadcellN); exact rfl; infer_instance; exact rfl))
 refine (compareS_calls a.l b.l _).mono ?_
 rintro e w1 ⟨r, rfl, hr, rfl⟩
 go_wp2_with fail
 go_ret
 exact ⟨r, rfl, hr, stepN⟩
set_option maxRecDepth 100000 in
set_option maxHeartbeats 3200000 in
theorem riseP_calls {A : Option Addr} {n c : Nat} {P : List PinR} {w : World} [hr : HR w A (cellsOf P)] (hl : P.length = n) (hmax : n ≤ 9223372036854775807) :
    Calls Tryz.prog 127 #[.slice A n c, .func (.func 128) #[] #[]] w fun e w' => e = .returned (.bool (riseB P P.length)) ∧ Step nowhere w w' := by
 obtain ⟨R, hR⟩ : ∃ R, R = riseB P P.length := ⟨_, rfl⟩
 have HR0 := Lib.hid hR
 rw [← hR]
 clear hR
 go_enter Tryz.func127, Tryz.ntmps127
 go_wp2_with fail
 go_loopw [5] (fun iv wr => ∃ k : Nat, 1 ≤ k ∧ k ≤ max n 1 ∧ iv = .int .i64 (k : Int) ∧ Hid (riseB P k = true) ∧ Step nowhere w wr) (fun iv _ => n - (intOf iv).toNat)
 case atStart => exact ⟨1, Nat.le_refl _, Nat.le_max_right _ _, rfl, Lib.hid rfl, stepN⟩
 case round =>
  obtain ⟨k, h1, hk, rfl, HJ, st⟩ := hrel
  have nr : Nw w wr := ⟨st.chg⟩
  have hrw : HR wr A (cellsOf P) := inferInstance
  by_cases hlt : k < n
  · have hltI : (k : Int) < n := by omega
    have hkl : k < P.length := by omega
    have FS1 := Lib.hid (show IntKind.i64.wrap ((k : Int) - 1) = ((k - 1 : Nat) : Int) by rw [IntKind.wrap_i64]; omega)
    have hkp : k - 1 < P.length := by omega
    have hts : riseB P (k + 1) = pinLt (gt P (k - 1)) (gt P k) := by rw [riseB, HJ.out, Bool.true_and, decide_eq_false (by omega), Bool.false_or]
    obtain ⟨V, hV⟩ : ∃ V, V = pinLt (gt P (k - 1)) (gt P k) := ⟨_, rfl⟩
    rw [← hV] at hts
    have HV := Lib.hid hV
    have HTS := Lib.hid hts
    have HNO : Hid (V = false → R = false) := Lib.hid (fun h => by rw [HR0.out]; exact riseB_no P (k + 1) (by rw [hts, h]) _ (by omega))
    clear hts hV
    go_wp2_with fail
    refine wp_region_N (nowhere) (by kernel_rfl) (fun wd _ _ => ?_)
    refine' tk 0 _ rfl (by kernel_rfl) (by kernel_rfl) (by kernel_rfl) (fun _ _ _ h => h) (yo (by rfl) fun w' _ => ?_) inferInstance ?_
    rotate_left
    · (go_simp; try with_reducible rfl)
    try simp only [Act.put, sA, sB, sC]
    refine' tk 1 _ rfl (by kernel_rfl) (by kernel_rfl) (by kernel_rfl) (fun _ _ _ h => h) (yo (by rfl) fun w' _ => ?_) inferInstance ?_
    rotate_left
    · (go_simp; try with_reducible rfl)
    try simp only [Act.put, sA, sB, sC]
    refine' tk 2 _ rfl (by kernel_rfl) (by kernel_rfl) (by kernel_rfl) (fun _ _ _ h => h) (yo (by rfl) fun w' _ => ?_) inferInstance ?_
    rotate_left
    · (go_simp; try with_reducible rfl)
    try simp only [Act.put, sA, sB, sC]
    refine' tk 3 _ rfl (by kernel_rfl) (by kernel_rfl) (by kernel_rfl) (fun _ _ _ h => h) (yo (by rfl) fun w' _ => ?_) inferInstance ?_
    rotate_left
    · (go_simp; try with_reducible rfl)
    try simp only [Act.put, sA, sB, sC]
    try simp only [FS1.out]
    refine' tk 4 _ rfl (by kernel_rfl) (by kernel_rfl) (by kernel_rfl) (fun _ _ _ h => h) (yo (by rfl) fun w' _ => ?_) inferInstance ?_
    rotate_left
    · ((apply (ev_indexE (α := PinR) (t := 57))); exact rfl; exact rfl; infer_instance; infer_instance; (first | (with_reducible assumption) | omega | (focus (simp; done)) | (focus (simp; omega; done)) | decide); exact rfl; (decide); (first | (with_reducible assumption) | omega | (focus (simp; done)) | (focus (simp; omega; done)) | decide))
    try simp only [Act.put, sA, sB, sC]
    refine' tk 5 _ rfl (by kernel_rfl) (by kernel_rfl) (by kernel_rfl) (fun _ _ _ h => h) (yo (by rfl) fun w' _ => ?_) inferInstance ?_
    rotate_left
    · ((apply (ev_loadE (α := PinR) (t := 68))); infer_instance; exact rfl; infer_instance; exact rfl; (decide); (first | (with_reducible assumption) | omega | (focus (simp; done)) | (focus (simp; omega; done)) | decide))
    try simp only [Act.put, sA, sB, sC]
    refine' tk 6 _ rfl (by kernel_rfl) (by kernel_rfl) (by kernel_rfl) (fun _ _ _ h => h) (yo (by rfl) fun w' _ => ?_) inferInstance ?_
    rotate_left
    · (go_simp; try with_reducible rfl)
    try simp only [Act.put, sA, sB, sC]
    refine' tk 7 _ rfl (by kernel_rfl) (by kernel_rfl) (by kernel_rfl) (fun _ _ _ h => h) (yo (by rfl) fun w' _ => ?_) inferInstance ?_
    rotate_left
    · (go_simp; try with_reducible rfl)
    try simp only [Act.put, sA, sB, sC]
    refine' tk 8 _ rfl (by kernel_rfl) (by kernel_rfl) (by kernel_rfl) (fun _ _ _ h => h) (yo (by rfl) fun w' _ => ?_) inferInstance ?_
    rotate_left
    · ((apply (ev_indexE (α := PinR) (t := 57))); exact rfl; exact rfl; infer_instance; infer_instance; (first | (with_reducible assumption) | omega | (focus (simp; done)) | (focus (simp; omega; done)) | decide); exact rfl; (decide); (first | (with_reducible assumption) | omega | (focus (simp; done)) | (focus (simp; omega; done)) | decide))
    try simp only [Act.put, sA, sB, sC]
    refine' tk 9 _ rfl (by kernel_rfl) (by kernel_rfl) (by kernel_rfl) (fun _ _ _ h => h) (yo (by rfl) fun w' _ => ?_) inferInstance ?_
    rotate_left
    · ((apply (ev_loadE (α := PinR) (t := 68))); infer_instance; exact rfl; infer_instance; exact rfl; (decide); (first | (with_reducible assumption) | omega | (focus (simp; done)) | (focus (simp; omega; done)) | decide))
    try simp only [Act.put, sA, sB, sC]
    refine goH (i := 10) (by kernel_rfl) rfl (fun K_ hK_ => ?_)
    go_simp
    refine (comparePins_calls (gt P (k - 1)) (gt P k) _).mono ?_
    rw [← HV.out]
    rintro e w5 ⟨r, rfl, hrr, _⟩
    refine hK_.out _ _ inferInstance (fun _ => ?_)
    clear hK_ K_
    try simp only [Act.put, sA, sB, sC]
    refine' tk 11 _ rfl (by kernel_rfl) (by kernel_rfl) (by kernel_rfl) (fun _ _ _ h => h) (yo (by rfl) fun w' _ => ?_) inferInstance ?_
    rotate_left
    · (go_simp; try with_reducible rfl)
    try simp only [Act.put, sA, sB, sC]
    try simp only [FS1.out]
    refine wpAnyH_done (by kernel_rfl) ?_ _
    cases V
    case false =>
     have hr0 : 0 ≤ r := by
      by_cases h : r < 0
      · exact absurd (hrr.1 h) (by decide)
      · omega
     have HF : Hid (R = false) := Lib.hid (HNO.out rfl)
     clear HNO hrr
     go_wp2_with fail
     go_ret
     rw [HF.out]
     exact ⟨rfl, stepN⟩
    case true =>
     have hr0 : ¬ 0 ≤ r := by
      have := hrr.2 rfl
      omega
     clear HNO hrr
     go_wp2_with fail
     exact ⟨⟨k + 1, by omega, by omega, by go_num, HTS, stepN⟩, by simp [intOf]; omega⟩
  · have hltI : ¬ (k : Int) < n := by omega
    have HF : Hid (R = true) := Lib.hid (by
     rw [HR0.out, hl]
     rcases Nat.eq_zero_or_pos n with h0 | h0
     · rw [h0]; rfl
     · have : k = n := by omega
       rw [← this]; exact HJ.out)
    go_wp2_with fail
    go_ret
    rw [HF.out]
    exact ⟨rfl, stepN⟩
set_option maxRecDepth 100000 in
set_option maxHeartbeats 1600000 in
theorem isSnap_calls (v e0 : Int) {A : Option Addr} {n c : Nat} {P : List PinR} {w : World} [hr : HR w A (cellsOf P)] (hl : P.length = n) (hmax : n ≤ 9223372036854775807) :
    Calls Tryz.prog 65 #[.agg #[.int .i64 v, .int .i64 e0, .slice A n c]] w fun e w' => e = .returned (.bool (snapOk v e0 P)) ∧ Step nowhere w w' := by
 obtain ⟨R, hR⟩ : ∃ R, R = snapOk v e0 P := ⟨_, rfl⟩
 have hR2 := hR
 rw [snapOk, hl] at hR2
 have HR0 := Lib.hid hR2
 rw [← hR]
 clear hR hR2
 cases h1 : verB v
 case false =>
  have HF : Hid (R = false) := Lib.hid (by rw [HR0.out, h1]; simp)
  go_enter Tryz.func65, Tryz.ntmps65
  go_wp2_with (first | ((with_reducible apply (wpl_box_agg (dst := some 1))); exact rfl; intro zt wzt _ _ _) | ((with_reducible apply wpl_loadcellN); exact rfl; infer_instance; exact rfl))
  refine (version_calls v _).mono ?_
  rw [h1]
  rintro e w5 ⟨rfl, _⟩
  go_wp2_with (first | go_skip)
  go_ret
  rw [HF.out]
  exact ⟨rfl, stepN⟩
 case true =>
  cases h2 : numB e0
  case false =>
   have HF : Hid (R = false) := Lib.hid (by rw [HR0.out, h2]; simp)
   go_enter Tryz.func65, Tryz.ntmps65
   go_wp2_with (first | ((with_reducible apply (wpl_box_agg (dst := some 1))); exact rfl; intro zt wzt _ _ _) | ((with_reducible apply wpl_loadcellN); exact rfl; infer_instance; exact rfl))
   refine (version_calls v _).mono ?_
   rw [h1]
   rintro e w5 ⟨rfl, _⟩
   go_wp2_with (first | ((with_reducible apply (wpl_guard (op := .load _ _))); exact rfl) | ((with_reducible apply (wpl_guard (op := .fieldAddr _ _ _))); exact rfl) | ((with_reducible apply wpl_loadcellN); exact rfl; infer_instance; exact rfl))
   refine (number_calls e0 _).mono ?_
   rw [h2]
   rintro e w6 ⟨rfl, _⟩
   go_wp2_with (first | go_skip)
   go_ret
   rw [HF.out]
   exact ⟨rfl, stepN⟩
  case true =>
   by_cases h16 : n ≤ 16
   · have h16I : (n : Int) ≤ 16 := by omega
     have HF : Hid (R = (P.all pinOk && riseB P P.length)) := Lib.hid (by rw [HR0.out, h1, h2, decide_eq_true h16, hl]; simp)
     obtain ⟨B, hB⟩ : ∃ B, B = P.all pinOk := ⟨_, rfl⟩
     have HB1 := Lib.hid hB
     clear hB HR0
     cases B
     case false =>
      go_enter Tryz.func65, Tryz.ntmps65
      go_wp2_with (first | ((with_reducible apply (wpl_box_agg (dst := some 1))); exact rfl; intro zt wzt _ _ _) | ((with_reducible apply wpl_loadcellN); exact rfl; infer_instance; exact rfl))
      refine (version_calls v _).mono ?_
      rw [h1]
      rintro e w5 ⟨rfl, _⟩
      go_wp2_with (first | ((with_reducible apply (wpl_guard (op := .load _ _))); exact rfl) | ((with_reducible apply (wpl_guard (op := .fieldAddr _ _ _))); exact rfl) | ((with_reducible apply wpl_loadcellN); exact rfl; infer_instance; exact rfl))
      refine (number_calls e0 _).mono ?_
      rw [h2]
      rintro e w6 ⟨rfl, _⟩
      go_wp2_with (first | ((with_reducible apply (wpl_guard (op := .load _ _))); exact rfl) | ((with_reducible apply (wpl_guard (op := .fieldAddr _ _ _))); exact rfl) | ((with_reducible apply wpl_loadcellN); exact rfl; infer_instance; exact rfl))
      refine (allP_calls (K := P) hl hmax).mono ?_
      rw [← HB1.out]
      rintro e w7 ⟨rfl, _⟩
      go_wp2_with (first | go_skip)
      go_ret
      rw [HF.out, ← HB1.out]
      exact ⟨rfl, stepN⟩
     case true =>
      go_enter Tryz.func65, Tryz.ntmps65
      go_wp2_with (first | ((with_reducible apply (wpl_box_agg (dst := some 1))); exact rfl; intro zt wzt _ _ _) | ((with_reducible apply wpl_loadcellN); exact rfl; infer_instance; exact rfl))
      refine (version_calls v _).mono ?_
      rw [h1]
      rintro e w5 ⟨rfl, _⟩
      go_wp2_with (first | ((with_reducible apply (wpl_guard (op := .load _ _))); exact rfl) | ((with_reducible apply (wpl_guard (op := .fieldAddr _ _ _))); exact rfl) | ((with_reducible apply wpl_loadcellN); exact rfl; infer_instance; exact rfl))
      refine (number_calls e0 _).mono ?_
      rw [h2]
      rintro e w6 ⟨rfl, _⟩
      go_wp2_with (first | ((with_reducible apply (wpl_guard (op := .load _ _))); exact rfl) | ((with_reducible apply (wpl_guard (op := .fieldAddr _ _ _))); exact rfl) | ((with_reducible apply wpl_loadcellN); exact rfl; infer_instance; exact rfl))
      refine (allP_calls (K := P) hl hmax).mono ?_
      rw [← HB1.out]
      rintro e w7 ⟨rfl, _⟩
      go_wp2_with (first | ((with_reducible apply (wpl_guard (op := .load _ _))); exact rfl) | ((with_reducible apply (wpl_guard (op := .fieldAddr _ _ _))); exact rfl) | ((with_reducible apply wpl_loadcellN); exact rfl; infer_instance; exact rfl))
      refine (riseP_calls (P := P) hl hmax).mono ?_
      rintro e w8 ⟨rfl, _⟩
      go_wp2_with fail
      go_ret
      rw [HF.out, ← HB1.out, Bool.true_and, hl]
      exact ⟨rfl, stepN⟩
   · have h16I : ¬ (n : Int) ≤ 16 := by omega
     have HF : Hid (R = false) := Lib.hid (by rw [HR0.out, decide_eq_false h16]; simp)
     go_enter Tryz.func65, Tryz.ntmps65
     go_wp2_with (first | ((with_reducible apply (wpl_box_agg (dst := some 1))); exact rfl; intro zt wzt _ _ _) | ((with_reducible apply wpl_loadcellN); exact rfl; infer_instance; exact rfl))
     refine (version_calls v _).mono ?_
     rw [h1]
     rintro e w5 ⟨rfl, _⟩
     go_wp2_with (first | ((with_reducible apply (wpl_guard (op := .load _ _))); exact rfl) | ((with_reducible apply (wpl_guard (op := .fieldAddr _ _ _))); exact rfl) | ((with_reducible apply wpl_loadcellN); exact rfl; infer_instance; exact rfl))
     refine (number_calls e0 _).mono ?_
     rw [h2]
     rintro e w6 ⟨rfl, _⟩
     go_wp2_with (first | go_skip | ((with_reducible apply (wpl_guard (op := .call _))); exact rfl) | ((with_reducible apply (wpl_guard (op := .load _ _))); exact rfl) | ((with_reducible apply (wpl_guard (op := .fieldAddr _ _ _))); exact rfl) | ((with_reducible apply wpl_loadcellN); exact rfl; infer_instance; exact rfl))
     go_ret
     rw [HF.out]
     exact ⟨rfl, stepN⟩
end Go.Proofs.YtgjnjhhhbkidbaaGreat
end
section
open Go Go.RowKit
namespace Go.Proofs.YtgjnjhhhbkidbaaGreat
theorem HB.cells {α : Type} [RowC α] {w : World} {z : Nat} {t : TypeId} {l : List α} (h : HB w z t (cellsOf l).toArray) : HR w (some ⟨z, 0, none⟩) (cellsOf l) := ⟨by
 have h1 := h.rdL
 simpa using h1⟩
end Go.Proofs.YtgjnjhhhbkidbaaGreat
end
section
open Go Go.RowKit
namespace Go.Proofs.YtgjnjhhhbkidbaaGreat
/-- what is decoded -/
def snM (b : List UInt8) : Int × Int × List PinR × Int := if snOk b then (snV b, snX b, snP b, 0) else (0, 0, [], 2)
def DecSn (b : List UInt8) (w : World) : Ending → World → Prop := fun e w' => Step nowhere w w' ∧ ∃ v x A n c P err, e = .returned (.tuple #[.agg #[.int .i64 v, .int .i64 x, .slice A n c], .int .i64 err]) ∧ Hid ((v, x, P, err) = snM b ∧ P.length = n ∧ n ≤ c ∧ n ≤ 16) ∧ Hid (Rd w' A (cellsOf P)) ∧ NewA w A
end Go.Proofs.YtgjnjhhhbkidbaaGreat
end
