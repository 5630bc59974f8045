/- KyQ -/
import Derived.Test.YthcleccofccbdaaTrEnM
open Go Go.RowKit
namespace Go.Proofs.Ythcleccofccbdaa
theorem hash_copy (s : RS) (m : Nat) (hm : m = (s.raw 32).1.length) : zeroH.l.take 0 ++ (s.raw 32).1 ++ zeroH.l.drop (0 + m) = s.hash.l := by
  subst hm
  rw [List.take_zero, List.nil_append, Nat.zero_add]
  rcases RS.raw_cases s with hc | hc
  · have e3 : s.hash.l = (s.raw 32).1 := by rw [RS.hash, dif_pos hc]
    rw [hc, e3, List.drop_of_length_le (by rw [H32.len]; exact Nat.le_refl _), List.append_nil]
  · have e3 : s.hash = zeroH := by rw [RS.hash, dif_neg (by rw [hc]; decide)]
    rw [hc, e3]
    rfl
set_option maxRecDepth 100000 in
set_option maxHeartbeats 800000 in
theorem rhash_calls {g d : Nat} {s : RS} {w : World} (hw : RRAt w g d s) (hl : s.b.length ≤ 1000000000) :
    Calls Try.prog 76 #[.pointer (some ⟨g, 0, none⟩)] w fun e w' => e = .returned (.agg (u8s s.hash.l)) ∧ Step (only g) w w' ∧ Hid (RRAt w' g d (s.raw 32).2) := by
  have HW0 := Lib.hid hw
  have hgl := hw.lt
  have hdl := hw.dlt
  obtain ⟨hsh, hhs⟩ : ∃ x, x = s.hash := ⟨_, rfl⟩
  have HHS := Lib.hid hhs
  rw [← hhs]
  clear hw hhs
  go_enter Try.func76, Try.ntmps76
  go_wp2_with (first | ((with_reducible apply (wpl_alloc (dst := some 2))); intro zo wzo _ _ _) | ((with_reducible apply (wpl_alloc (dst := some 3))); intro zh wzh _ _ _) | ((with_reducible apply wpl_alloc); intro z wz _ _ _) | ((with_reducible apply wpl_loadrow); (exact rfl); infer_instance; infer_instance; (first | (with_reducible assumption) | (with_reducible exact H32.size _) | kernel_rfl)) | ((with_reducible apply wpl_loadcellN); (exact rfl); infer_instance; (exact rfl)) | ((with_reducible apply wpl_storerow); (exact rfl); (exact rfl); infer_instance; infer_instance; (first | (with_reducible assumption) | (with_reducible exact H32.size _) | kernel_rfl); (first | (with_reducible assumption) | (with_reducible exact H32.size _) | kernel_rfl); (first | (with_reducible exact u8s_one _) | (with_reducible assumption) | kernel_rfl); intro ws _ _) | ((with_reducible apply wpl_storecell); (exact rfl); (exact rfl); infer_instance; (exact rfl); (first | (with_reducible assumption) | omega | (focus (simp; done)) | (focus (simp; omega; done)) | decide); intro ws _ _))
  have st0 : Step nowhere w wzh := stepN
  have hzh : w.heap.size ≤ zh := (NewA.monoS (w0 := w) (NewA.of_born (z := zh) 0)).out ⟨zh, 0, none⟩ rfl
  have hzo : w.heap.size ≤ zo := (NewA.monoS (w0 := w) (NewA.of_born (z := zo) 0)).out ⟨zo, 0, none⟩ rfl
  have og : OffB (only g) zh := ⟨fun e => by have e' : zh = g := e; omega⟩
  have ogo : OffB (only g) zo := ⟨fun e => by have e' : zo = g := e; omega⟩
  have oho : OffB (only zh) zo := inferInstance
  refine wp_region_N ((gz g zh)) (by kernel_rfl) (fun wd _ _ => ?_)
  refine' takeH (i := 0) (v := _) rfl (by kernel_rfl) (by kernel_rfl) (by kernel_rfl) (fun _ _ _ h => h) (yields_of (by rfl) (fun w' _ => ?_)) inferInstance ?_
  rotate_left
  · (first | ((with_reducible apply ev_sl_lh); (exact rfl); (exact rfl); (exact rfl); infer_instance; (first | (with_reducible assumption) | omega); (first | (with_reducible assumption) | omega)) | ((with_reducible apply ev_sl_h); (exact rfl); (exact rfl); infer_instance; (first | (with_reducible assumption) | omega)) | ((with_reducible apply ev_sl_l); (exact rfl); (exact rfl); infer_instance; (first | (with_reducible assumption) | omega)) | (go_simp; try with_reducible rfl))
  try simp only [Act.put, sA]; try simp only [sB, sC]
  refine' takeH (i := 1) (v := _) rfl (by kernel_rfl) (by kernel_rfl) (by kernel_rfl) (fun _ _ _ h => h) (yields_of (by rfl) (fun w' _ => ?_)) inferInstance ?_
  rotate_left
  · (go_simp; try with_reducible rfl)
  try simp only [Act.put, sA]; try simp only [sB, sC]
  refine goH (i := 2) (by kernel_rfl) rfl (fun K_ hK_ => ?_)
  go_simp
  refine (rrRaw_calls g d s 32 wd ((HW0.out.chg st0.chg (fun h => h) (fun h => h)).chg (stepN (w0 := wzh) (w := wd)).chg (fun h => h) (fun h => h)) (by omega)).mono ?_
  rintro e w5 ⟨A5, n5, c5, rfl, hn5, ho5, h5, cc5, hA5⟩
  have st5 : Step (only g) wd w5 := ⟨cc5.out⟩
  have hr5 : HR w5 A5 (bs (s.raw 32).1) := ⟨ho5.out.rd⟩
  have hle5 : n5 ≤ 32 := by
    have := hn5.out
    rcases s.raw_cases with h | h
    · omega
    · rw [h] at this; simp at this; omega
  have hfit5 : 0 + n5 ≤ zeroH.l.length := by rw [H32.len]; omega
  refine hK_.out _ _ inferInstance (fun _ => ?_)
  clear hK_ K_
  try simp only [Act.put, sA]; try simp only [sB, sC]
  refine goH (i := 3) (by kernel_rfl) rfl (fun K_ hK_ => ?_)
  rw [if_pos (by kernel_rfl)]
  refine wpr_of_list ?_
  (first | ((with_reducible apply wpl_copy); (exact Try.underlying28); (kernel_rfl); (exact rfl); (exact rfl); infer_instance; (exact hr5); (exact hn5.out.symm); (exact hle5); (exact hfit5); intro wc _ hbc) | ((with_reducible apply wpl_copy); (exact Try.underlying28); (kernel_rfl); (exact rfl); (exact rfl); infer_instance; infer_instance; (first | (with_reducible assumption) | (with_reducible exact H32.len _) | (focus (simp; done))); (first | (with_reducible assumption) | omega); (first | (with_reducible assumption) | omega | (focus (simp; done)) | (focus (simp; omega; done)) | decide); intro wc _ _))
  refine wpList_nil ?_
  unfold onlyN
  refine hK_.out _ _ inferInstance (fun _ => ?_)
  clear hK_ K_
  try simp only [Act.put, sA]; try simp only [sB, sC]
  refine wpAnyH_done (by kernel_rfl) ?_ _
  rw [hash_copy s n5 hn5.out, ← HHS.out] at hbc
  have stg : Hid (Chg (gz g zh) w wc) := Lib.hid ((st0.chg.mono (T := gz g zh) (fun _ _ h => h.elim)).trans (((stepN (w0 := wzh) (w := wd)).chg.mono (T := gz g zh) (fun _ _ h => h.elim)).trans ((cc5.out.mono (T := gz g zh) (fun _ _ h => .inl h)).trans ((inferInstance : Step (only zh) w5 wc).chg.mono (T := gz g zh) (fun _ _ h => .inr h)) (fun _ _ h => h)) (fun _ _ h => h)) (fun _ _ h => h))
  have HR2 : Hid (RRAt wc g d (s.raw 32).2) := Lib.hid (h5.out.chg2 (inferInstance : Step (only zh) w5 wc).chg (fun e => by have e' : g = zh := e; omega) (fun hne e => by
    have e' : d = zh := e
    have := hdl (fun h0 => hne (List.eq_nil_of_length_eq_zero (by have := s.raw_le' 32; rw [h0] at this; simpa using this)))
    omega))
  have hzoc : HB wc zo 78 (u8s zeroH.l) := inferInstance
  go_wp2_with (first | ((with_reducible apply wpl_alloc); intro z wz _ _ _) | ((with_reducible apply wpl_loadrow); (exact rfl); infer_instance; infer_instance; (first | (with_reducible assumption) | (with_reducible exact H32.size _) | kernel_rfl)) | ((with_reducible apply wpl_loadcellN); (exact rfl); infer_instance; (exact rfl)) | ((with_reducible apply wpl_storerow); (exact rfl); (exact rfl); infer_instance; infer_instance; (first | (with_reducible assumption) | (with_reducible exact H32.size _) | kernel_rfl); (first | (with_reducible assumption) | (with_reducible exact H32.size _) | kernel_rfl); (first | (with_reducible exact u8s_one _) | (with_reducible assumption) | kernel_rfl); intro ws _ _) | ((with_reducible apply wpl_storecell); (exact rfl); (exact rfl); infer_instance; (exact rfl); (first | (with_reducible assumption) | omega | (focus (simp; done)) | (focus (simp; omega; done)) | decide); intro ws _ _))
  refine ret_row rfl rfl (n := 32) (H32.size _) rfl ?_
  refine ⟨rfl, ⟨(stg.out.mono (T := only g) (fun x hx h => ?_)).trans (inferInstance : Step (only zo) wc ws).chg (fun x hx h => ?_)⟩, Lib.hid (HR2.out.chg2 (inferInstance : Step (only zo) wc ws).chg (fun e => ?_) (fun hne e => ?_))⟩
  · rcases h with h | h
    · exact h
    · omega
  · have h' : x = zo := h
    omega
  · have e' : g = zo := e
    omega
  · have e' : d = zo := e
    have := hdl (fun h0 => hne (List.eq_nil_of_length_eq_zero (by have := s.raw_le' 32; rw [h0] at this; simpa using this)))
    omega
theorem fresh_ho {w0 w : World} {A : Option Addr} {n c : Nat} {xs : List UInt8} (h : Fresh w0 w A n c xs) : HO w 5 1 A n c (bs xs) := ⟨h.own⟩
set_option maxRecDepth 100000 in
set_option maxHeartbeats 1600000 in
theorem rkencode_calls {leaf : Int} {A B : Option Addr} {n c m d : Nat} {l p : List H32} {w : World} [hr : HR w A (cellsOf l)] [hp : HR w B (cellsOf p)] (hl : l.length = n) (hm : p.length = m) :
    Calls Try.prog 72 #[.agg #[.int .i64 leaf, .slice A n c, .slice B m d]] w (KEncPost (isS leaf n m) (sigB leaf l p) w) := by
  unfold KEncPost
  rcases hb : isS leaf n m with _ | _
  · go_enter Try.func72, Try.ntmps72
    go_wp2_with (first | ((with_reducible apply (wpl_box_agg (dst := some 1))); (exact rfl); intro zs wzs _ _ _) | ((with_reducible apply (wpl_box_int (dst := some 1))); (exact rfl); intro zs wzs _ _ _) | ((with_reducible apply (wpl_box_slice (dst := some 1))); (exact rfl); intro zs wzs _ _ _) | ((with_reducible apply (wpl_box_str (dst := some 1))); (exact rfl); intro zs wzs _ _ _) | ((with_reducible apply (wpl_box_bool (dst := some 1))); (exact rfl); intro zs wzs _ _ _) | ((with_reducible apply (wpl_box_ptr (dst := some 1))); (exact rfl); intro zs wzs _ _ _) | ((with_reducible apply wpl_box_agg); (exact rfl); intro z wz _ _ _) | ((with_reducible apply wpl_box_int); (exact rfl); intro z wz _ _ _) | ((with_reducible apply wpl_box_slice); (exact rfl); intro z wz _ _ _) | ((with_reducible apply wpl_box_str); (exact rfl); intro z wz _ _ _) | ((with_reducible apply wpl_box_bool); (exact rfl); intro z wz _ _ _) | ((with_reducible apply wpl_box_ptr); (exact rfl); intro z wz _ _ _) | ((with_reducible apply wpl_loadrow); (exact rfl); infer_instance; infer_instance; (first | (with_reducible assumption) | (with_reducible exact H32.size _) | kernel_rfl)) | ((with_reducible apply wpl_loadcellN); (exact rfl); infer_instance; (exact rfl)))
    refine (ris_calls _).mono ?_
    rw [hb]
    rintro e w5 ⟨rfl, _⟩
    go_wp2_with (first | ((with_reducible apply wpl_box_agg); (exact rfl); intro z wz _ _ _) | ((with_reducible apply wpl_box_int); (exact rfl); intro z wz _ _ _) | ((with_reducible apply wpl_box_slice); (exact rfl); intro z wz _ _ _) | ((with_reducible apply wpl_box_str); (exact rfl); intro z wz _ _ _) | ((with_reducible apply wpl_box_bool); (exact rfl); intro z wz _ _ _) | ((with_reducible apply wpl_box_ptr); (exact rfl); intro z wz _ _ _) | ((with_reducible apply wpl_loadrow); (exact rfl); infer_instance; infer_instance; (first | (with_reducible assumption) | (with_reducible exact H32.size _) | kernel_rfl)) | ((with_reducible apply wpl_loadcellN); (exact rfl); infer_instance; (exact rfl)))
    go_ret2
    exact ⟨stepN, rfl⟩
  · have hnm : n = 36 ∧ m = 4 := by
      have := hb
      simp [isS] at this
      omega
    obtain ⟨rfl, rfl⟩ := hnm
    have HLL := Lib.hid hl
    have HPL := Lib.hid hm
    have HE1 : Hid ((encAll [leaf]).length ≤ 9) := Lib.hid (encAll_len [leaf])
    clear hl hm
    go_enter Try.func72, Try.ntmps72
    go_wp2_with (first | ((with_reducible apply (wpl_box_agg (dst := some 1))); (exact rfl); intro zs wzs _ _ _) | ((with_reducible apply (wpl_box_int (dst := some 1))); (exact rfl); intro zs wzs _ _ _) | ((with_reducible apply (wpl_box_slice (dst := some 1))); (exact rfl); intro zs wzs _ _ _) | ((with_reducible apply (wpl_box_str (dst := some 1))); (exact rfl); intro zs wzs _ _ _) | ((with_reducible apply (wpl_box_bool (dst := some 1))); (exact rfl); intro zs wzs _ _ _) | ((with_reducible apply (wpl_box_ptr (dst := some 1))); (exact rfl); intro zs wzs _ _ _) | ((with_reducible apply wpl_box_agg); (exact rfl); intro z wz _ _ _) | ((with_reducible apply wpl_box_int); (exact rfl); intro z wz _ _ _) | ((with_reducible apply wpl_box_slice); (exact rfl); intro z wz _ _ _) | ((with_reducible apply wpl_box_str); (exact rfl); intro z wz _ _ _) | ((with_reducible apply wpl_box_bool); (exact rfl); intro z wz _ _ _) | ((with_reducible apply wpl_box_ptr); (exact rfl); intro z wz _ _ _) | ((with_reducible apply wpl_loadrow); (exact rfl); infer_instance; infer_instance; (first | (with_reducible assumption) | (with_reducible exact H32.size _) | kernel_rfl)) | ((with_reducible apply wpl_loadcellN); (exact rfl); infer_instance; (exact rfl)))
    refine (ris_calls _).mono ?_
    rw [hb]
    rintro e w5 ⟨rfl, _⟩
    go_wp2_with (first | ((with_reducible apply wpl_box_agg); (exact rfl); intro z wz _ _ _) | ((with_reducible apply wpl_box_int); (exact rfl); intro z wz _ _ _) | ((with_reducible apply wpl_box_slice); (exact rfl); intro z wz _ _ _) | ((with_reducible apply wpl_box_str); (exact rfl); intro z wz _ _ _) | ((with_reducible apply wpl_box_bool); (exact rfl); intro z wz _ _ _) | ((with_reducible apply wpl_box_ptr); (exact rfl); intro z wz _ _ _) | ((with_reducible apply wpl_loadrow); (exact rfl); infer_instance; infer_instance; (first | (with_reducible assumption) | (with_reducible exact H32.size _) | kernel_rfl)) | ((with_reducible apply wpl_loadcellN); (exact rfl); infer_instance; (exact rfl)))
    refine (refNum_calls leaf _).mono ?_
    rintro e w6 ⟨A6, n6, c6, rfl, hF⟩
    have st6 : Step nowhere w5 w6 := ⟨hF.out.chg⟩
    have n5 : Nw w w5 := inferInstance
    have hA6 : NewA w A6 := ⟨fun ad e => Nat.le_trans n5.out.size (hF.out.new ad e)⟩
    have ho6 : HO w6 5 1 A6 n6 c6 (bs (encAll [leaf] ++ kflatH (l.take 0))) := by
      have h1 := fresh_ho hF.out
      rw [← encAll_one] at h1
      simpa [kflatH] using h1
    have hn6 : n6 ≤ 9 := by
      have h1 := hF.out.len
      rw [← encAll_one] at h1
      have := HE1.out
      omega
    have n6' : Nw w w6 := inferInstance
    have hs6 : HB w6 zs 123 #[.int .i64 leaf, .slice A 36 c, .slice B 4 d] := inferInstance
    have os : OffB (rowOf A6) zs := ⟨fun ⟨ad, e, hk⟩ => by
      have h1 := hF.out.new ad e
      have h2 := (inferInstance : HB w5 zs 123 #[.int .i64 leaf, .slice A 36 c, .slice B 4 d]).out.lt
      omega⟩
    clear hF
    go_wp2_with (first | ((with_reducible apply wpl_box_agg); (exact rfl); intro z wz _ _ _) | ((with_reducible apply wpl_box_int); (exact rfl); intro z wz _ _ _) | ((with_reducible apply wpl_box_slice); (exact rfl); intro z wz _ _ _) | ((with_reducible apply wpl_box_str); (exact rfl); intro z wz _ _ _) | ((with_reducible apply wpl_box_bool); (exact rfl); intro z wz _ _ _) | ((with_reducible apply wpl_box_ptr); (exact rfl); intro z wz _ _ _) | ((with_reducible apply wpl_loadrow); (exact rfl); infer_instance; infer_instance; (first | (with_reducible assumption) | (with_reducible exact H32.size _) | kernel_rfl)) | ((with_reducible apply wpl_loadcellN); (exact rfl); infer_instance; (exact rfl)))
    go_loopw [4, 5] (fun bv iv wr => ∃ (k : Nat) (A1 : Option Addr) (n1 c1 : Nat), k ≤ 36 ∧ iv = .int .i64 (k : Int) ∧ bv = .slice A1 n1 c1 ∧ Step nowhere w wr ∧ HO wr 5 1 A1 n1 c1 (bs (encAll [leaf] ++ kflatH (l.take k))) ∧ NewA w A1 ∧ OffB (rowOf A1) zs ∧ n1 ≤ 9 + 32 * k ∧ HB wr zs 123 #[.int .i64 leaf, .slice A 36 c, .slice B 4 d]) (fun _ iv _ => 36 - (intOf iv).toNat)
    case atStart => exact ⟨0, A6, n6, c6, by decide, rfl, rfl, stepN, ho6, hA6, os, by omega, hs6⟩
    case round =>
      clear ho6 hA6 os hn6 hs6 n6' st6 n5
      obtain ⟨k, A1, n1, c1, hk, rfl, rfl, _, hO, hA1, os, hn1, hs⟩ := hrel
      have st : Step nowhere w wr := inferInstance
      have n1' : Nw w wr := ⟨st.chg⟩
      by_cases hlt : k < 36
      · have hltI : (k : Int) < 36 := by omega
        have hln : l.length = 36 := HLL.out
        have hkl : k < l.length := by omega
        have hF : Fact' (k < l.length) := ⟨hkl⟩
        have htk := kflatH_take l k hkl
        have HTK : Hid (encAll [leaf] ++ kflatH (l.take k) ++ (hget l k).l = encAll [leaf] ++ kflatH (l.take (k + 1))) := Lib.hid (by rw [htk, List.append_assoc])
        clear htk
        go_wp2_with (first | ((with_reducible apply wpl_box_agg); (exact rfl); intro z wz _ _ _) | ((with_reducible apply wpl_box_int); (exact rfl); intro z wz _ _ _) | ((with_reducible apply wpl_box_slice); (exact rfl); intro z wz _ _ _) | ((with_reducible apply wpl_box_str); (exact rfl); intro z wz _ _ _) | ((with_reducible apply wpl_box_bool); (exact rfl); intro z wz _ _ _) | ((with_reducible apply wpl_box_ptr); (exact rfl); intro z wz _ _ _) | ((with_reducible apply wpl_loadrow); (exact rfl); infer_instance; infer_instance; (first | (with_reducible assumption) | (with_reducible exact H32.size _) | kernel_rfl)) | ((with_reducible apply wpl_loadcellN); (exact rfl); infer_instance; (exact rfl)) | ((with_reducible apply wpl_sl_lh); (exact rfl); (exact rfl); (exact rfl); infer_instance; (first | (with_reducible assumption) | omega); (first | (with_reducible assumption) | omega)) | ((with_reducible apply wpl_sl_h); (exact rfl); (exact rfl); infer_instance; (first | (with_reducible assumption) | omega)) | ((with_reducible apply wpl_sl_l); (exact rfl); (exact rfl); infer_instance; (first | (with_reducible assumption) | omega)) | ((with_reducible apply wpl_indexH); (exact rfl); (exact rfl); infer_instance; infer_instance; (first | (with_reducible assumption) | omega); (first | (with_reducible assumption) | omega); (first | (with_reducible assumption) | omega)) | ((with_reducible apply wpl_indexH'); (exact rfl); (exact rfl); infer_instance; infer_instance; (first | (with_reducible assumption) | omega); (first | (with_reducible assumption) | omega); (first | (with_reducible assumption) | omega)) | ((with_reducible apply (wpl_loadhash (t := 78))); (exact rfl); infer_instance; infer_instance; (first | (with_reducible assumption) | omega)) | ((with_reducible apply wpl_sliceH); (exact rfl); (exact Try.underlying78); (kernel_rfl); infer_instance; (first | (with_reducible assumption) | omega)) | ((with_reducible apply wpl_appendB); (exact rfl); (exact rfl); infer_instance; (first | exact inferInstance | exact ⟨Own.nil _ _ _⟩); infer_instance; (first | (with_reducible assumption) | (with_reducible exact H32.len _) | (focus (simp; done)) | omega); (first | (with_reducible assumption) | omega); intro A' c' wa _ _ _ hcap) | ((with_reducible apply wpl_appendH); (exact rfl); (exact rfl); infer_instance; (first | exact inferInstance | exact ⟨Own.nil _ _ _⟩); infer_instance; (first | (with_reducible assumption) | omega); intro A' c' wa _ _ _ hcap) | ((with_reducible apply (wpl_appendR (α := H32))); (exact rfl); (exact rfl); infer_instance; (first | exact inferInstance | exact ⟨Own.nil _ _ _⟩); infer_instance; (exact rfl); (first | (with_reducible assumption) | (with_reducible exact H32.len _) | (focus (simp; done)) | omega); (first | (with_reducible assumption) | omega); (decide); (decide); intro A' c' wa _ _ _ hcap) | ((with_reducible apply (wpl_loadbyteH (t := 5))); (exact rfl); infer_instance; (first | (with_reducible assumption) | omega); (first | (with_reducible assumption) | omega)) | ((with_reducible apply (wpl_loadint (t := 3))); (exact rfl); infer_instance; infer_instance; (first | (with_reducible assumption) | omega)) | ((with_reducible apply (wpl_loadbyte (t := 5))); (exact rfl); infer_instance; infer_instance; (first | (with_reducible assumption) | omega)))
        rename_i hcap
        refine ⟨⟨k + 1, A', n1 + 32, c', by omega, by go_num, rfl, stepN, ?_, inferInstance, inferInstance, by omega, inferInstance⟩, by simp [intOf]; omega⟩
        rw [← HTK.out]
        infer_instance
      · obtain rfl : k = 36 := by omega
        have hfin : l.take 36 = l := List.take_of_length_le (by have := HLL.out; omega)
        rw [hfin] at hO
        have hO' : HO wr 5 1 A1 n1 c1 (bs (encAll [leaf] ++ kflatH l ++ kflatH (p.take 0))) := by simpa [kflatH] using hO
        clear hfin hO
        go_wp2_with (first | ((with_reducible apply wpl_box_agg); (exact rfl); intro z wz _ _ _) | ((with_reducible apply wpl_box_int); (exact rfl); intro z wz _ _ _) | ((with_reducible apply wpl_box_slice); (exact rfl); intro z wz _ _ _) | ((with_reducible apply wpl_box_str); (exact rfl); intro z wz _ _ _) | ((with_reducible apply wpl_box_bool); (exact rfl); intro z wz _ _ _) | ((with_reducible apply wpl_box_ptr); (exact rfl); intro z wz _ _ _) | ((with_reducible apply wpl_loadrow); (exact rfl); infer_instance; infer_instance; (first | (with_reducible assumption) | (with_reducible exact H32.size _) | kernel_rfl)) | ((with_reducible apply wpl_loadcellN); (exact rfl); infer_instance; (exact rfl)))
        go_loopw [4, 6] (fun bv iv wq => ∃ (j : Nat) (A2 : Option Addr) (n2 c2 : Nat), j ≤ 4 ∧ iv = .int .i64 (j : Int) ∧ bv = .slice A2 n2 c2 ∧ Step nowhere w wq ∧ HO wq 5 1 A2 n2 c2 (bs (encAll [leaf] ++ kflatH l ++ kflatH (p.take j))) ∧ NewA w A2 ∧ OffB (rowOf A2) zs ∧ n2 ≤ 9 + 32 * 36 + 32 * j ∧ HB wq zs 123 #[.int .i64 leaf, .slice A 36 c, .slice B 4 d]) (fun _ iv _ => 4 - (intOf iv).toNat)
        case atStart => exact ⟨0, A1, n1, c1, by decide, rfl, rfl, st, hO', hA1, os, by omega, hs⟩
        case round =>
          clear hO' hA1 os hn1 hs n1' st
          obtain ⟨j, A2, n2, c2, hj, rfl, rfl, _, hO, hA2, os, hn2, hs⟩ := hrel
          have st : Step nowhere w wr := inferInstance
          have n2' : Nw w wr := ⟨st.chg⟩
          by_cases hltj : j < 4
          · have hltI : (j : Int) < 4 := by omega
            have hln : p.length = 4 := HPL.out
            have hkl : j < p.length := by omega
            have hF : Fact' (j < p.length) := ⟨hkl⟩
            have htk := kflatH_take p j hkl
            have HTK : Hid (encAll [leaf] ++ kflatH l ++ kflatH (p.take j) ++ (hget p j).l = encAll [leaf] ++ kflatH l ++ kflatH (p.take (j + 1))) := Lib.hid (by rw [htk, List.append_assoc])
            clear htk
            go_wp2_with (first | ((with_reducible apply wpl_box_agg); (exact rfl); intro z wz _ _ _) | ((with_reducible apply wpl_box_int); (exact rfl); intro z wz _ _ _) | ((with_reducible apply wpl_box_slice); (exact rfl); intro z wz _ _ _) | ((with_reducible apply wpl_box_str); (exact rfl); intro z wz _ _ _) | ((with_reducible apply wpl_box_bool); (exact rfl); intro z wz _ _ _) | ((with_reducible apply wpl_box_ptr); (exact rfl); intro z wz _ _ _) | ((with_reducible apply wpl_loadrow); (exact rfl); infer_instance; infer_instance; (first | (with_reducible assumption) | (with_reducible exact H32.size _) | kernel_rfl)) | ((with_reducible apply wpl_loadcellN); (exact rfl); infer_instance; (exact rfl)) | ((with_reducible apply wpl_sl_lh); (exact rfl); (exact rfl); (exact rfl); infer_instance; (first | (with_reducible assumption) | omega); (first | (with_reducible assumption) | omega)) | ((with_reducible apply wpl_sl_h); (exact rfl); (exact rfl); infer_instance; (first | (with_reducible assumption) | omega)) | ((with_reducible apply wpl_sl_l); (exact rfl); (exact rfl); infer_instance; (first | (with_reducible assumption) | omega)) | ((with_reducible apply wpl_indexH); (exact rfl); (exact rfl); infer_instance; infer_instance; (first | (with_reducible assumption) | omega); (first | (with_reducible assumption) | omega); (first | (with_reducible assumption) | omega)) | ((with_reducible apply wpl_indexH'); (exact rfl); (exact rfl); infer_instance; infer_instance; (first | (with_reducible assumption) | omega); (first | (with_reducible assumption) | omega); (first | (with_reducible assumption) | omega)) | ((with_reducible apply (wpl_loadhash (t := 78))); (exact rfl); infer_instance; infer_instance; (first | (with_reducible assumption) | omega)) | ((with_reducible apply wpl_sliceH); (exact rfl); (exact Try.underlying78); (kernel_rfl); infer_instance; (first | (with_reducible assumption) | omega)) | ((with_reducible apply wpl_appendB); (exact rfl); (exact rfl); infer_instance; (first | exact inferInstance | exact ⟨Own.nil _ _ _⟩); infer_instance; (first | (with_reducible assumption) | (with_reducible exact H32.len _) | (focus (simp; done)) | omega); (first | (with_reducible assumption) | omega); intro A' c' wa _ _ _ hcap) | ((with_reducible apply wpl_appendH); (exact rfl); (exact rfl); infer_instance; (first | exact inferInstance | exact ⟨Own.nil _ _ _⟩); infer_instance; (first | (with_reducible assumption) | omega); intro A' c' wa _ _ _ hcap) | ((with_reducible apply (wpl_appendR (α := H32))); (exact rfl); (exact rfl); infer_instance; (first | exact inferInstance | exact ⟨Own.nil _ _ _⟩); infer_instance; (exact rfl); (first | (with_reducible assumption) | (with_reducible exact H32.len _) | (focus (simp; done)) | omega); (first | (with_reducible assumption) | omega); (decide); (decide); intro A' c' wa _ _ _ hcap) | ((with_reducible apply (wpl_loadbyteH (t := 5))); (exact rfl); infer_instance; (first | (with_reducible assumption) | omega); (first | (with_reducible assumption) | omega)) | ((with_reducible apply (wpl_loadint (t := 3))); (exact rfl); infer_instance; infer_instance; (first | (with_reducible assumption) | omega)) | ((with_reducible apply (wpl_loadbyte (t := 5))); (exact rfl); infer_instance; infer_instance; (first | (with_reducible assumption) | omega)))
            refine ⟨⟨j + 1, A', n2 + 32, c', by omega, by go_num, rfl, stepN, ?_, inferInstance, inferInstance, by omega, inferInstance⟩, by simp [intOf]; omega⟩
            rw [← HTK.out]
            infer_instance
          · obtain rfl : j = 4 := by omega
            have hfin : p.take 4 = p := List.take_of_length_le (by have := HPL.out; omega)
            rw [hfin] at hO
            have HN9 : Hid (n2 = (sigB leaf l p).length) := Lib.hid (by
              have h1 := hO.out.len
              rw [bs_length] at h1
              rw [sigB]
              omega)
            go_wp2_with (first | ((with_reducible apply wpl_box_agg); (exact rfl); intro z wz _ _ _) | ((with_reducible apply wpl_box_int); (exact rfl); intro z wz _ _ _) | ((with_reducible apply wpl_box_slice); (exact rfl); intro z wz _ _ _) | ((with_reducible apply wpl_box_str); (exact rfl); intro z wz _ _ _) | ((with_reducible apply wpl_box_bool); (exact rfl); intro z wz _ _ _) | ((with_reducible apply wpl_box_ptr); (exact rfl); intro z wz _ _ _) | ((with_reducible apply wpl_loadrow); (exact rfl); infer_instance; infer_instance; (first | (with_reducible assumption) | (with_reducible exact H32.size _) | kernel_rfl)) | ((with_reducible apply wpl_loadcellN); (exact rfl); infer_instance; (exact rfl)))
            go_ret2
            exact ⟨st, A2, n2, c2, rfl, HN9.out, hO, hA2⟩
end Go.Proofs.Ythcleccofccbdaa
