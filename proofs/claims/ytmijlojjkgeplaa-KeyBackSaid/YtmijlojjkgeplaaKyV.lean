/- KeyBack. -/
import Derived.Test.YtmijlojjkgeplaaKyT
import Derived.Test.YtmijlojjkgeplaaKyD
open Go Go.RowKit
namespace Go.Proofs.Ytmijlojjkgeplaa
theorem xor_one : ∀ n : Fin 256, b8 (bits .xor .u8 ((n.val : Nat) : Int) 1) ≠ UInt8.ofNat n.val := by decide +kernel
theorem other_ne (N : H32) : setH N 0 (b8 (bits .xor .u8 ((bget N.l 0).toNat : Int) 1)) ≠ N := by
  intro h
  have h1 : N.l.set 0 (b8 (bits .xor .u8 ((bget N.l 0).toNat : Int) 1)) = N.l := congrArg H32.l h
  have h2 := congrArg (fun l : List UInt8 => l.getD 0 0) h1
  have hl : 0 < N.l.length := by rw [H32.len]; decide
  have h3 : b8 (bits .xor .u8 ((bget N.l 0).toNat : Int) 1) = bget N.l 0 := by
    simpa [bget, List.getD_eq_getElem?_getD, hl] using h2
  refine xor_one ⟨(bget N.l 0).toNat, (bget N.l 0).toNat_lt⟩ ?_
  rw [h3]
  simp
theorem verify_other {pub o : H32} {m : List UInt8} {leaf : Int} {l p : List H32} (h : verifyS pub m leaf l p = true) (hne : o ≠ pub) : verifyS o m leaf l p = false := by
  unfold verifyS at h ⊢
  rw [Bool.and_eq_true, decide_eq_true_eq] at h
  rw [h.1, h.2, Bool.true_and]
  exact decide_eq_false (fun e => hne e.symm)
set_option maxRecDepth 100000 in
set_option maxHeartbeats 6400000 in
theorem keyBack_calls (seed : H32) (used : Int) {A B : Option Addr} {ml c nl d : Nat} {m n : List UInt8} {w : World} [hr : HR w A (bs m)] [hb : HR w B (bs n)] (hm : m.length = ml) (hc : ml ≤ c) (hn : n.length = nl) (hd : nl ≤ d) (hm9 : ml ≤ 140737488355328) (hn9 : nl ≤ 140737488355328) :
    Calls Try.prog 6 #[.agg (u8s seed.l), .int .i64 used, .slice A ml c, .slice B nl d] w fun e w' => e = .returned (.bool true) ∧ Chg nowhere w w' := by
  have HM := Lib.hid hm
  have HNL := Lib.hid hn
  by_cases c0 : 2000 < ml + nl ∨ used < 0 ∨ 14 < used
  · have c1 : 2000 < (ml : Int) + nl ∨ (¬ 2000 < (ml : Int) + nl ∧ used < 0) ∨ (¬ 2000 < (ml : Int) + nl ∧ ¬ used < 0 ∧ 14 < used) := by omega
    clear c0
    rcases c1 with c1 | ⟨c1, c2⟩ | ⟨c1, c2, c3⟩
    all_goals
      go_enter Try.func6, Try.ntmps6
      go_wp2_with (first | go_skip | ((with_reducible apply (wpl_alloc (dst := some 4))); intro zs wzs _ _ _) | ((with_reducible apply (wpl_box_agg (dst := some 4))); (exact rfl); intro zs wzs _ _ _) | ((with_reducible apply (wpl_box_int (dst := some 4))); (exact rfl); intro zs wzs _ _ _) | ((with_reducible apply (wpl_box_slice (dst := some 4))); (exact rfl); intro zs wzs _ _ _) | ((with_reducible apply (wpl_box_str (dst := some 4))); (exact rfl); intro zs wzs _ _ _) | ((with_reducible apply (wpl_box_bool (dst := some 4))); (exact rfl); intro zs wzs _ _ _) | ((with_reducible apply (wpl_box_ptr (dst := some 4))); (exact rfl); intro zs wzs _ _ _) | ((with_reducible apply wpl_alloc); intro z wz _ _ _) | ((with_reducible apply wpl_box_agg); (exact rfl); intro z wz _ _ _) | ((with_reducible apply wpl_box_int); (exact rfl); intro z wz _ _ _) | ((with_reducible apply wpl_box_slice); (exact rfl); intro z wz _ _ _) | ((with_reducible apply wpl_box_str); (exact rfl); intro z wz _ _ _) | ((with_reducible apply wpl_box_bool); (exact rfl); intro z wz _ _ _) | ((with_reducible apply wpl_box_ptr); (exact rfl); intro z wz _ _ _) | ((with_reducible apply (wpl_guard (op := .load _ _))); (exact rfl)) | ((with_reducible apply (wpl_guard (op := .fieldAddr _ _ _))); (exact rfl)) | ((with_reducible apply wpl_loadrow); (exact rfl); (exact inferInstance); (exact inferInstance); (first | (with_reducible assumption) | (with_reducible exact H32.size _) | kernel_rfl)) | ((with_reducible apply wpl_loadcellN); (exact rfl); (exact inferInstance); (exact rfl)) | ((with_reducible apply wpl_storerow); (exact rfl); (exact rfl); (exact inferInstance); (exact inferInstance); (first | (with_reducible assumption) | (with_reducible exact H32.size _) | kernel_rfl); (first | (with_reducible assumption) | (with_reducible exact H32.size _) | kernel_rfl); (first | (with_reducible exact u8s_one _) | (with_reducible assumption) | kernel_rfl); intro ws _ _) | ((with_reducible apply wpl_storecell); (exact rfl); (exact rfl); (exact inferInstance); (exact rfl); (first | (with_reducible assumption) | omega | (focus (simp; done)) | (focus (simp; omega; done)) | decide); intro ws _ _))
      go_ret
      exact ⟨rfl, (stepN (w0 := w)).chg⟩
  · have c1 : ¬ 2000 < (ml : Int) + nl := by omega
    have c2 : ¬ used < 0 := by omega
    have c3 : ¬ 14 < used := by omega
    have u0 : 0 ≤ used := by omega
    have u1 : used < 16 := by omega
    have v0 : 0 ≤ used + 1 := by omega
    have v1 : used + 1 < 16 := by omega
    have hml : ml ≤ 100000 := by omega
    have hnl : nl ≤ 100000 := by omega
    have une : (used == used + 1) = false := by
      simp
      omega
    obtain ⟨N, hN⟩ : ∃ N, N = pubS seed := ⟨_, rfl⟩
    obtain ⟨S, hS⟩ : ∃ S, S = signS seed used m := ⟨_, rfl⟩
    obtain ⟨Pa, hP⟩ : ∃ Pa, Pa = pathA (leavesS seed) used := ⟨_, rfl⟩
    obtain ⟨T, hT⟩ : ∃ T, T = signS seed (used + 1) n := ⟨_, rfl⟩
    obtain ⟨Pb, hPb⟩ : ∃ Pb, Pb = pathA (leavesS seed) (used + 1) := ⟨_, rfl⟩
    have hV1 : verifyS N m used S Pa = true := by rw [hN, hS, hP]; exact verify_sign seed used m u0 u1
    have hV2 : verifyS N n (used + 1) T Pb = true := by rw [hN, hT, hPb]; exact verify_sign seed (used + 1) n v0 v1
    obtain ⟨b3, hb3⟩ : ∃ b, b = verifyS N n used S Pa := ⟨_, rfl⟩
    have HV4 : Hid (verifyS (setH N 0 (b8 (bits .xor .u8 ((bget N.l 0).toNat : Int) 1))) m used S Pa = false) := Lib.hid (verify_other hV1 (other_ne N))
    have HSL : Hid (S.length = 36) := Lib.hid (by rw [hS, signS_len])
    have HTL : Hid (T.length = 36) := Lib.hid (by rw [hT, signS_len])
    have HPL : Hid (Pa.length = 4) := Lib.hid (by rw [hP]; exact path_len4 seed used u0 u1)
    have HPBL : Hid (Pb.length = 4) := Lib.hid (by rw [hPb]; exact path_len4 seed (used + 1) v0 v1)
    have HN := Lib.hid hN
    have HS := Lib.hid hS
    have HP := Lib.hid hP
    have HT := Lib.hid hT
    have HPB := Lib.hid hPb
    have HV1 := Lib.hid hV1
    have HV2 := Lib.hid hV2
    have HV3 := Lib.hid hb3
    have hok0 : dOk (sigB used S Pa) = true := dOk_sig u0 u1 HSL.out HPL.out
    have hds := d_sig (more := []) u0 u1 HSL.out HPL.out
    rw [List.append_nil] at hds
    have hlen := sigB_len (leaf := used) u0 u1 HSL.out HPL.out
    obtain ⟨G, hG⟩ : ∃ G, G = sigB used S Pa := ⟨_, rfl⟩
    rw [← hG] at hok0 hds hlen
    have HG := Lib.hid hG
    have HOK := Lib.hid hok0
    have HDS := Lib.hid hds
    have HLEN := Lib.hid hlen
    have hlf : ((used.toNat : Nat) : Int) = used := by omega
    have e36 : isS used 36 4 = true := by simp [isS]; omega
    have HE36 := Lib.hid e36
    have HLF := Lib.hid hlf
    clear c0 hN hS hP hT hPb hV1 hV2 hb3 hok0 hds hlen hG hlf e36 hm hn
    go_enter Try.func6, Try.ntmps6
    go_wp2_with (first | go_skip | ((with_reducible apply (wpl_alloc (dst := some 4))); intro zs wzs _ _ _) | ((with_reducible apply (wpl_box_agg (dst := some 4))); (exact rfl); intro zs wzs _ _ _) | ((with_reducible apply (wpl_box_int (dst := some 4))); (exact rfl); intro zs wzs _ _ _) | ((with_reducible apply (wpl_box_slice (dst := some 4))); (exact rfl); intro zs wzs _ _ _) | ((with_reducible apply (wpl_box_str (dst := some 4))); (exact rfl); intro zs wzs _ _ _) | ((with_reducible apply (wpl_box_bool (dst := some 4))); (exact rfl); intro zs wzs _ _ _) | ((with_reducible apply (wpl_box_ptr (dst := some 4))); (exact rfl); intro zs wzs _ _ _) | ((with_reducible apply wpl_alloc); intro z wz _ _ _) | ((with_reducible apply wpl_box_agg); (exact rfl); intro z wz _ _ _) | ((with_reducible apply wpl_box_int); (exact rfl); intro z wz _ _ _) | ((with_reducible apply wpl_box_slice); (exact rfl); intro z wz _ _ _) | ((with_reducible apply wpl_box_str); (exact rfl); intro z wz _ _ _) | ((with_reducible apply wpl_box_bool); (exact rfl); intro z wz _ _ _) | ((with_reducible apply wpl_box_ptr); (exact rfl); intro z wz _ _ _) | ((with_reducible apply (wpl_guard (op := .load _ _))); (exact rfl)) | ((with_reducible apply (wpl_guard (op := .fieldAddr _ _ _))); (exact rfl)) | ((with_reducible apply wpl_loadrow); (exact rfl); (exact inferInstance); (exact inferInstance); (first | (with_reducible assumption) | (with_reducible exact H32.size _) | kernel_rfl)) | ((with_reducible apply wpl_loadcellN); (exact rfl); (exact inferInstance); (exact rfl)) | ((with_reducible apply wpl_storerow); (exact rfl); (exact rfl); (exact inferInstance); (exact inferInstance); (first | (with_reducible assumption) | (with_reducible exact H32.size _) | kernel_rfl); (first | (with_reducible assumption) | (with_reducible exact H32.size _) | kernel_rfl); (first | (with_reducible exact u8s_one _) | (with_reducible assumption) | kernel_rfl); intro ws _ _) | ((with_reducible apply wpl_storecell); (exact rfl); (exact rfl); (exact inferInstance); (exact rfl); (first | (with_reducible assumption) | omega | (focus (simp; done)) | (focus (simp; omega; done)) | decide); intro ws _ _))
    refine (new_calls seed used _).mono ?_
    rintro e w1 ⟨zk, rfl, _, _, hk1⟩
    have hu : min (max used 0) 16 = used := by omega
    rw [hu] at hk1
    have n1 : Nw w w1 := inferInstance
    clear hu
    go_wp2_with (first | go_skip | ((with_reducible apply wpl_alloc); intro z wz _ _ _) | ((with_reducible apply wpl_box_agg); (exact rfl); intro z wz _ _ _) | ((with_reducible apply wpl_box_int); (exact rfl); intro z wz _ _ _) | ((with_reducible apply wpl_box_slice); (exact rfl); intro z wz _ _ _) | ((with_reducible apply wpl_box_str); (exact rfl); intro z wz _ _ _) | ((with_reducible apply wpl_box_bool); (exact rfl); intro z wz _ _ _) | ((with_reducible apply wpl_box_ptr); (exact rfl); intro z wz _ _ _) | ((with_reducible apply (wpl_guard (op := .load _ _))); (exact rfl)) | ((with_reducible apply (wpl_guard (op := .fieldAddr _ _ _))); (exact rfl)) | ((with_reducible apply wpl_loadrow); (exact rfl); (exact inferInstance); (exact inferInstance); (first | (with_reducible assumption) | (with_reducible exact H32.size _) | kernel_rfl)) | ((with_reducible apply wpl_loadcellN); (exact rfl); (exact inferInstance); (exact rfl)) | ((with_reducible apply wpl_storerow); (exact rfl); (exact rfl); (exact inferInstance); (exact inferInstance); (first | (with_reducible assumption) | (with_reducible exact H32.size _) | kernel_rfl); (first | (with_reducible assumption) | (with_reducible exact H32.size _) | kernel_rfl); (first | (with_reducible exact u8s_one _) | (with_reducible assumption) | kernel_rfl); intro ws _ _) | ((with_reducible apply wpl_storecell); (exact rfl); (exact rfl); (exact inferInstance); (exact rfl); (first | (with_reducible assumption) | omega | (focus (simp; done)) | (focus (simp; omega; done)) | decide); intro ws _ _))
    refine (ksign_calls (zk := zk) (used := used) HM.out hc hml u0 u1).mono ?_
    rw [← HS.out, ← HP.out]
    rintro e w2 ⟨z2, A2, a2, rfl, _, _, _, _, hS2, hP2⟩
    have hp4 : Pa.length = 4 := HPL.out
    rw [hp4] at hP2
    rw [hp4]
    have n2 : Nw w w2 := inferInstance
    clear hp4
    go_wp2_with (first | go_skip | ((with_reducible apply (wpl_alloc (dst := some 10))); intro z10 wz10 _ _ _) | ((with_reducible apply (wpl_box_agg (dst := some 10))); (exact rfl); intro z10 wz10 _ _ _) | ((with_reducible apply (wpl_box_int (dst := some 10))); (exact rfl); intro z10 wz10 _ _ _) | ((with_reducible apply (wpl_box_slice (dst := some 10))); (exact rfl); intro z10 wz10 _ _ _) | ((with_reducible apply (wpl_box_str (dst := some 10))); (exact rfl); intro z10 wz10 _ _ _) | ((with_reducible apply (wpl_box_bool (dst := some 10))); (exact rfl); intro z10 wz10 _ _ _) | ((with_reducible apply (wpl_box_ptr (dst := some 10))); (exact rfl); intro z10 wz10 _ _ _) | ((with_reducible apply wpl_alloc); intro z wz _ _ _) | ((with_reducible apply wpl_box_agg); (exact rfl); intro z wz _ _ _) | ((with_reducible apply wpl_box_int); (exact rfl); intro z wz _ _ _) | ((with_reducible apply wpl_box_slice); (exact rfl); intro z wz _ _ _) | ((with_reducible apply wpl_box_str); (exact rfl); intro z wz _ _ _) | ((with_reducible apply wpl_box_bool); (exact rfl); intro z wz _ _ _) | ((with_reducible apply wpl_box_ptr); (exact rfl); intro z wz _ _ _) | ((with_reducible apply (wpl_guard (op := .load _ _))); (exact rfl)) | ((with_reducible apply (wpl_guard (op := .fieldAddr _ _ _))); (exact rfl)) | ((with_reducible apply wpl_loadrow); (exact rfl); (exact inferInstance); (exact inferInstance); (first | (with_reducible assumption) | (with_reducible exact H32.size _) | kernel_rfl)) | ((with_reducible apply wpl_loadcellN); (exact rfl); (exact inferInstance); (exact rfl)) | ((with_reducible apply wpl_storerow); (exact rfl); (exact rfl); (exact inferInstance); (exact inferInstance); (first | (with_reducible assumption) | (with_reducible exact H32.size _) | kernel_rfl); (first | (with_reducible assumption) | (with_reducible exact H32.size _) | kernel_rfl); (first | (with_reducible exact u8s_one _) | (with_reducible assumption) | kernel_rfl); intro ws _ _) | ((with_reducible apply wpl_storecell); (exact rfl); (exact rfl); (exact inferInstance); (exact rfl); (first | (with_reducible assumption) | omega | (focus (simp; done)) | (focus (simp; omega; done)) | decide); intro ws _ _))
    refine (ksign_calls (zk := zk) (used := used + 1) HNL.out hd hnl v0 v1).mono ?_
    rw [← HT.out, ← HPB.out]
    rintro e w3 ⟨z3, A3, a3, rfl, _, _, _, _, hS3, hP3⟩
    have hp4 : Pb.length = 4 := HPBL.out
    rw [hp4] at hP3
    rw [hp4]
    have n3 : Nw w w3 := inferInstance
    clear hp4
    go_wp2_with (first | go_skip | ((with_reducible apply (wpl_alloc (dst := some 12))); intro z12 wz12 _ _ _) | ((with_reducible apply (wpl_box_agg (dst := some 12))); (exact rfl); intro z12 wz12 _ _ _) | ((with_reducible apply (wpl_box_int (dst := some 12))); (exact rfl); intro z12 wz12 _ _ _) | ((with_reducible apply (wpl_box_slice (dst := some 12))); (exact rfl); intro z12 wz12 _ _ _) | ((with_reducible apply (wpl_box_str (dst := some 12))); (exact rfl); intro z12 wz12 _ _ _) | ((with_reducible apply (wpl_box_bool (dst := some 12))); (exact rfl); intro z12 wz12 _ _ _) | ((with_reducible apply (wpl_box_ptr (dst := some 12))); (exact rfl); intro z12 wz12 _ _ _) | ((with_reducible apply wpl_alloc); intro z wz _ _ _) | ((with_reducible apply wpl_box_agg); (exact rfl); intro z wz _ _ _) | ((with_reducible apply wpl_box_int); (exact rfl); intro z wz _ _ _) | ((with_reducible apply wpl_box_slice); (exact rfl); intro z wz _ _ _) | ((with_reducible apply wpl_box_str); (exact rfl); intro z wz _ _ _) | ((with_reducible apply wpl_box_bool); (exact rfl); intro z wz _ _ _) | ((with_reducible apply wpl_box_ptr); (exact rfl); intro z wz _ _ _) | ((with_reducible apply (wpl_guard (op := .load _ _))); (exact rfl)) | ((with_reducible apply (wpl_guard (op := .fieldAddr _ _ _))); (exact rfl)) | ((with_reducible apply wpl_loadrow); (exact rfl); (exact inferInstance); (exact inferInstance); (first | (with_reducible assumption) | (with_reducible exact H32.size _) | kernel_rfl)) | ((with_reducible apply wpl_loadcellN); (exact rfl); (exact inferInstance); (exact rfl)) | ((with_reducible apply wpl_storerow); (exact rfl); (exact rfl); (exact inferInstance); (exact inferInstance); (first | (with_reducible assumption) | (with_reducible exact H32.size _) | kernel_rfl); (first | (with_reducible assumption) | (with_reducible exact H32.size _) | kernel_rfl); (first | (with_reducible exact u8s_one _) | (with_reducible assumption) | kernel_rfl); intro ws _ _) | ((with_reducible apply wpl_storecell); (exact rfl); (exact rfl); (exact inferInstance); (exact rfl); (first | (with_reducible assumption) | omega | (focus (simp; done)) | (focus (simp; omega; done)) | decide); intro ws _ _))
    refine (kencode_calls (leaf := used) (l := S) (p := Pa) HSL.out HPL.out).mono ?_
    rintro e w4 ⟨_, h4⟩
    rw [HE36.out, ← HG.out] at h4
    obtain ⟨A4, n4, c4, rfl, hn4, hO4, _⟩ := h4
    have n4' : Nw w w4 := inferInstance
    have hR4 : HR w4 A4 (bs G) := ⟨hO4.out.rd⟩
    have hn4' : n4 = 1281 := by rw [hn4, HLEN.out]
    have hn4b : n4 ≤ 2000 := by omega
    have HN4 := Lib.hid hn4
    clear hn4 hn4'
    go_wp2_with (first | go_skip | ((with_reducible apply wpl_alloc); intro z wz _ _ _) | ((with_reducible apply wpl_box_agg); (exact rfl); intro z wz _ _ _) | ((with_reducible apply wpl_box_int); (exact rfl); intro z wz _ _ _) | ((with_reducible apply wpl_box_slice); (exact rfl); intro z wz _ _ _) | ((with_reducible apply wpl_box_str); (exact rfl); intro z wz _ _ _) | ((with_reducible apply wpl_box_bool); (exact rfl); intro z wz _ _ _) | ((with_reducible apply wpl_box_ptr); (exact rfl); intro z wz _ _ _) | ((with_reducible apply (wpl_guard (op := .load _ _))); (exact rfl)) | ((with_reducible apply (wpl_guard (op := .fieldAddr _ _ _))); (exact rfl)) | ((with_reducible apply wpl_loadrow); (exact rfl); (exact inferInstance); (exact inferInstance); (first | (with_reducible assumption) | (with_reducible exact H32.size _) | kernel_rfl)) | ((with_reducible apply wpl_loadcellN); (exact rfl); (exact inferInstance); (exact rfl)) | ((with_reducible apply wpl_storerow); (exact rfl); (exact rfl); (exact inferInstance); (exact inferInstance); (first | (with_reducible assumption) | (with_reducible exact H32.size _) | kernel_rfl); (first | (with_reducible assumption) | (with_reducible exact H32.size _) | kernel_rfl); (first | (with_reducible exact u8s_one _) | (with_reducible assumption) | kernel_rfl); intro ws _ _) | ((with_reducible apply wpl_storecell); (exact rfl); (exact rfl); (exact inferInstance); (exact rfl); (first | (with_reducible assumption) | omega | (focus (simp; done)) | (focus (simp; omega; done)) | decide); intro ws _ _))
    refine (kdecode_calls (b := G) HN4.out.symm (by omega)).mono ?_
    rintro e w5 ⟨_, h5⟩
    rw [HOK.out, HDS.out.1, HDS.out.2.1, HDS.out.2.2.1, HLF.out] at h5
    obtain ⟨A5, B5, a5, b5, rfl, hO5, hP5, _, _⟩ := h5
    have n5 : Nw w w5 := inferInstance
    go_wp2_with (first | go_skip | ((with_reducible apply (wpl_guard (op := .call _))); (exact rfl)) | ((with_reducible apply (wpl_alloc (dst := some 16))); intro z16 wz16 _ _ _) | ((with_reducible apply (wpl_box_agg (dst := some 16))); (exact rfl); intro z16 wz16 _ _ _) | ((with_reducible apply (wpl_box_int (dst := some 16))); (exact rfl); intro z16 wz16 _ _ _) | ((with_reducible apply (wpl_box_slice (dst := some 16))); (exact rfl); intro z16 wz16 _ _ _) | ((with_reducible apply (wpl_box_str (dst := some 16))); (exact rfl); intro z16 wz16 _ _ _) | ((with_reducible apply (wpl_box_bool (dst := some 16))); (exact rfl); intro z16 wz16 _ _ _) | ((with_reducible apply (wpl_box_ptr (dst := some 16))); (exact rfl); intro z16 wz16 _ _ _) | ((with_reducible apply wpl_alloc); intro z wz _ _ _) | ((with_reducible apply wpl_box_agg); (exact rfl); intro z wz _ _ _) | ((with_reducible apply wpl_box_int); (exact rfl); intro z wz _ _ _) | ((with_reducible apply wpl_box_slice); (exact rfl); intro z wz _ _ _) | ((with_reducible apply wpl_box_str); (exact rfl); intro z wz _ _ _) | ((with_reducible apply wpl_box_bool); (exact rfl); intro z wz _ _ _) | ((with_reducible apply wpl_box_ptr); (exact rfl); intro z wz _ _ _) | ((with_reducible apply (wpl_guard (op := .load _ _))); (exact rfl)) | ((with_reducible apply (wpl_guard (op := .fieldAddr _ _ _))); (exact rfl)) | ((with_reducible apply wpl_loadrow); (exact rfl); (exact inferInstance); (exact inferInstance); (first | (with_reducible assumption) | (with_reducible exact H32.size _) | kernel_rfl)) | ((with_reducible apply wpl_loadcellN); (exact rfl); (exact inferInstance); (exact rfl)) | ((with_reducible apply wpl_storerow); (exact rfl); (exact rfl); (exact inferInstance); (exact inferInstance); (first | (with_reducible assumption) | (with_reducible exact H32.size _) | kernel_rfl); (first | (with_reducible assumption) | (with_reducible exact H32.size _) | kernel_rfl); (first | (with_reducible exact u8s_one _) | (with_reducible assumption) | kernel_rfl); intro ws _ _) | ((with_reducible apply wpl_storecell); (exact rfl); (exact rfl); (exact inferInstance); (exact rfl); (first | (with_reducible assumption) | omega | (focus (simp; done)) | (focus (simp; omega; done)) | decide); intro ws _ _))
    refine (rsame_calls (A := some ⟨z2, 0, none⟩) (B := A2) (C := A5) (D := B5) (w := ws) HSL.out HPL.out HSL.out HPL.out (by decide) (by decide)).mono ?_
    rw [sameS_self]
    rintro e w6 ⟨rfl, _⟩
    have n6 : Nw w w6 := inferInstance
    go_wp2_with (first | go_skip | ((with_reducible apply wpl_alloc); intro z wz _ _ _) | ((with_reducible apply wpl_box_agg); (exact rfl); intro z wz _ _ _) | ((with_reducible apply wpl_box_int); (exact rfl); intro z wz _ _ _) | ((with_reducible apply wpl_box_slice); (exact rfl); intro z wz _ _ _) | ((with_reducible apply wpl_box_str); (exact rfl); intro z wz _ _ _) | ((with_reducible apply wpl_box_bool); (exact rfl); intro z wz _ _ _) | ((with_reducible apply wpl_box_ptr); (exact rfl); intro z wz _ _ _) | ((with_reducible apply (wpl_guard (op := .load _ _))); (exact rfl)) | ((with_reducible apply (wpl_guard (op := .fieldAddr _ _ _))); (exact rfl)) | ((with_reducible apply wpl_loadrow); (exact rfl); (exact inferInstance); (exact inferInstance); (first | (with_reducible assumption) | (with_reducible exact H32.size _) | kernel_rfl)) | ((with_reducible apply wpl_loadcellN); (exact rfl); (exact inferInstance); (exact rfl)) | ((with_reducible apply wpl_storerow); (exact rfl); (exact rfl); (exact inferInstance); (exact inferInstance); (first | (with_reducible assumption) | (with_reducible exact H32.size _) | kernel_rfl); (first | (with_reducible assumption) | (with_reducible exact H32.size _) | kernel_rfl); (first | (with_reducible exact u8s_one _) | (with_reducible assumption) | kernel_rfl); intro ws _ _) | ((with_reducible apply wpl_storecell); (exact rfl); (exact rfl); (exact inferInstance); (exact rfl); (first | (with_reducible assumption) | omega | (focus (simp; done)) | (focus (simp; omega; done)) | decide); intro ws _ _))
    refine (kpublic_calls (zk := zk)).mono ?_
    rw [← HN.out]
    rintro e w7 ⟨rfl, _, _⟩
    have n7 : Nw w w7 := inferInstance
    have hb10 : HB w7 z10 35 #[.int .i64 used, .slice (some ⟨z2, 0, none⟩) 36 36, .slice A2 4 a2] := inferInstance
    have hb12 : HB w7 z12 35 #[.int .i64 (used + 1), .slice (some ⟨z3, 0, none⟩) 36 36, .slice A3 4 a3] := inferInstance
    have hr2 : HR w7 (some ⟨z2, 0, none⟩) (cellsOf S) := inferInstance
    have hr3 : HR w7 A2 (cellsOf Pa) := inferInstance
    have hr4 : HR w7 (some ⟨z3, 0, none⟩) (cellsOf T) := inferInstance
    have hr5 : HR w7 A3 (cellsOf Pb) := inferInstance
    have hr6 : HR w7 A (bs m) := HR.step nowhere w w7 A (bs m) (s := ⟨n7.out⟩)
    have hr7 : HR w7 B (bs n) := HR.step nowhere w w7 B (bs n) (s := ⟨n7.out⟩)
    have hNl : 0 < N.l.length := by
      rw [N.len]
      decide
    have hxr := xor_u8_in ((bget N.l 0).toNat : Int) 1
    obtain ⟨xv, hxv⟩ : ∃ xv, xv = bits .xor .u8 ((bget N.l 0).toNat : Int) 1 := ⟨_, rfl⟩
    rw [← hxv] at hxr
    have HXV := Lib.hid hxv
    go_wp2_with (first | go_skip | ((with_reducible apply (wpl_alloc (dst := some 18))); intro z18 wz18 _ _ _) | ((with_reducible apply (wpl_box_agg (dst := some 18))); (exact rfl); intro z18 wz18 _ _ _) | ((with_reducible apply (wpl_box_int (dst := some 18))); (exact rfl); intro z18 wz18 _ _ _) | ((with_reducible apply (wpl_box_slice (dst := some 18))); (exact rfl); intro z18 wz18 _ _ _) | ((with_reducible apply (wpl_box_str (dst := some 18))); (exact rfl); intro z18 wz18 _ _ _) | ((with_reducible apply (wpl_box_bool (dst := some 18))); (exact rfl); intro z18 wz18 _ _ _) | ((with_reducible apply (wpl_box_ptr (dst := some 18))); (exact rfl); intro z18 wz18 _ _ _) | ((with_reducible apply (wpl_alloc (dst := some 19))); intro z19 wz19 _ _ _) | ((with_reducible apply (wpl_box_agg (dst := some 19))); (exact rfl); intro z19 wz19 _ _ _) | ((with_reducible apply (wpl_box_int (dst := some 19))); (exact rfl); intro z19 wz19 _ _ _) | ((with_reducible apply (wpl_box_slice (dst := some 19))); (exact rfl); intro z19 wz19 _ _ _) | ((with_reducible apply (wpl_box_str (dst := some 19))); (exact rfl); intro z19 wz19 _ _ _) | ((with_reducible apply (wpl_box_bool (dst := some 19))); (exact rfl); intro z19 wz19 _ _ _) | ((with_reducible apply (wpl_box_ptr (dst := some 19))); (exact rfl); intro z19 wz19 _ _ _) | ((with_reducible apply wpl_alloc); intro z wz _ _ _) | ((with_reducible apply wpl_box_agg); (exact rfl); intro z wz _ _ _) | ((with_reducible apply wpl_box_int); (exact rfl); intro z wz _ _ _) | ((with_reducible apply wpl_box_slice); (exact rfl); intro z wz _ _ _) | ((with_reducible apply wpl_box_str); (exact rfl); intro z wz _ _ _) | ((with_reducible apply wpl_box_bool); (exact rfl); intro z wz _ _ _) | ((with_reducible apply wpl_box_ptr); (exact rfl); intro z wz _ _ _) | ((with_reducible apply (wpl_guard (op := .load _ _))); (exact rfl)) | ((with_reducible apply (wpl_guard (op := .fieldAddr _ _ _))); (exact rfl)) | ((with_reducible apply wpl_loadrow); (exact rfl); (exact inferInstance); (exact inferInstance); (first | (with_reducible assumption) | (with_reducible exact H32.size _) | kernel_rfl)) | ((with_reducible apply wpl_loadcellN); (exact rfl); (exact inferInstance); (exact rfl)) | ((with_reducible apply wpl_storerow); (exact rfl); (exact rfl); (exact inferInstance); (exact inferInstance); (first | (with_reducible assumption) | (with_reducible exact H32.size _) | kernel_rfl); (first | (with_reducible assumption) | (with_reducible exact H32.size _) | kernel_rfl); (first | (with_reducible exact u8s_one _) | (with_reducible assumption) | kernel_rfl); intro ws _ _) | ((with_reducible apply wpl_storecell); (exact rfl); (exact rfl); (exact inferInstance); (exact rfl); (first | (with_reducible assumption) | omega | (focus (simp; done)) | (focus (simp; omega; done)) | decide); intro ws _ _) | ((with_reducible apply wpl_indexH); (exact rfl); (exact rfl); (exact inferInstance); (exact inferInstance); (first | (with_reducible assumption) | omega); (first | (with_reducible assumption) | omega); (first | (with_reducible assumption) | omega)) | ((with_reducible apply wpl_indexH'); (exact rfl); (exact rfl); (exact inferInstance); (exact inferInstance); (first | (with_reducible assumption) | omega); (first | (with_reducible assumption) | omega); (first | (with_reducible assumption) | omega)) | ((with_reducible apply (wpl_loadhash (t := 23))); (exact rfl); (exact inferInstance); (exact inferInstance); (first | (with_reducible assumption) | omega)) | ((with_reducible apply (wpl_storehash (t := 23))); (exact rfl); (exact rfl); (exact inferInstance); (exact inferInstance); (first | (with_reducible assumption) | omega | (focus (simp; done)) | (focus (simp; omega; done)) | decide); intro ws _ _) | ((with_reducible apply (wpl_loadint (t := 3))); (exact rfl); (exact inferInstance); (exact inferInstance); (first | (with_reducible assumption) | omega)) | ((with_reducible apply (wpl_loadbyte (t := 5))); (exact rfl); (exact inferInstance); (exact inferInstance); (first | (with_reducible assumption) | omega)) | ((with_reducible apply (wpl_storeint (t := 3))); (exact rfl); (exact rfl); (exact inferInstance); (first | (with_reducible assumption) | omega); intro ws _ _) | ((with_reducible apply (wpl_storebyte (t := 5))); (exact rfl); (exact rfl); (exact inferInstance); (first | (with_reducible assumption) | omega | (focus (simp; done)) | (focus (simp; omega; done)) | decide); (constructor <;> omega); intro ws _ _))
    clear hxv
    have hOb : HB ws z19 23 (u8s (N.l.set 0 (b8 (bits .xor .u8 ((bget N.l 0).toNat : Int) 1)))) := inferInstance
    rw [← HXV.out] at hOb
    replace hOb : HB ws z19 23 (u8s (setH N 0 (b8 xv)).l) := hOb
    rw [← HXV.out] at HV4
    obtain ⟨O, hO⟩ : ∃ O, O = setH N 0 (b8 xv) := ⟨_, rfl⟩
    rw [← hO] at HV4 hOb
    clear hO
    have n8 : Nw w ws := inferInstance
    cases b3 with
    | false =>
      refine wp_region_N (nowhere) (by kernel_rfl) (fun wd _ _ => ?_)
      refine' takeH (i := 0) (v := _) rfl (by kernel_rfl) (by kernel_rfl) (by kernel_rfl) (fun _ _ _ h => h) (yields_of (by rfl) (fun w' _ => ?_)) inferInstance ?_
      rotate_left
      · (first | ((with_reducible apply (ev_loadKSeed (t := 23))); (exact rfl); (exact inferInstance); (exact inferInstance)) | ((with_reducible apply (ev_loadKUsed (t := 3))); (exact rfl); (exact inferInstance); (exact inferInstance)) | ((with_reducible apply ev_loadrow); (exact rfl); (exact inferInstance); (exact inferInstance); (first | (with_reducible assumption) | (with_reducible exact H32.size _) | kernel_rfl)) | ((with_reducible apply (ev_loadhash (t := 23))); (exact rfl); (exact inferInstance); (exact inferInstance); (first | (with_reducible assumption) | omega)) | ((with_reducible apply ev_loadcellN); (exact rfl); (exact inferInstance); (exact inferInstance); (exact rfl)) | ((with_reducible apply (ev_loadint (t := 3))); (exact rfl); (exact inferInstance); (exact inferInstance); (first | (with_reducible assumption) | omega)) | ((with_reducible apply (ev_loadbyte (t := 5))); (exact rfl); (exact inferInstance); (exact inferInstance); (first | (with_reducible assumption) | omega)) | (go_simp; try with_reducible rfl))
      try simp only [Act.put, List.setIfInBounds_toArray]; try simp only [List.set_cons_succ, List.set_cons_zero]
      refine' takeH (i := 1) (v := _) rfl (by kernel_rfl) (by kernel_rfl) (by kernel_rfl) (fun _ _ _ h => h) (yields_of (by rfl) (fun w' _ => ?_)) inferInstance ?_
      rotate_left
      · (go_simp; try with_reducible rfl)
      try simp only [Act.put, List.setIfInBounds_toArray]; try simp only [List.set_cons_succ, List.set_cons_zero]
      refine' takeH (i := 2) (v := _) rfl (by kernel_rfl) (by kernel_rfl) (by kernel_rfl) (fun _ _ _ h => h) (yields_of (by rfl) (fun w' _ => ?_)) inferInstance ?_
      rotate_left
      · (first | ((with_reducible apply (ev_loadKSeed (t := 23))); (exact rfl); (exact inferInstance); (exact inferInstance)) | ((with_reducible apply (ev_loadKUsed (t := 3))); (exact rfl); (exact inferInstance); (exact inferInstance)) | ((with_reducible apply ev_loadrow); (exact rfl); (exact inferInstance); (exact inferInstance); (first | (with_reducible assumption) | (with_reducible exact H32.size _) | kernel_rfl)) | ((with_reducible apply (ev_loadhash (t := 23))); (exact rfl); (exact inferInstance); (exact inferInstance); (first | (with_reducible assumption) | omega)) | ((with_reducible apply ev_loadcellN); (exact rfl); (exact inferInstance); (exact inferInstance); (exact rfl)) | ((with_reducible apply (ev_loadint (t := 3))); (exact rfl); (exact inferInstance); (exact inferInstance); (first | (with_reducible assumption) | omega)) | ((with_reducible apply (ev_loadbyte (t := 5))); (exact rfl); (exact inferInstance); (exact inferInstance); (first | (with_reducible assumption) | omega)) | (go_simp; try with_reducible rfl))
      try simp only [Act.put, List.setIfInBounds_toArray]; try simp only [List.set_cons_succ, List.set_cons_zero]
      refine goH (i := 3) (by kernel_rfl) rfl (fun K_ hK_ => ?_)
      go_simp
      refine (verify_calls N used HM.out hc hml HSL.out HPL.out).mono ?_
      rw [HV1.out]
      rintro e w8 ⟨rfl, _⟩
      refine hK_.out _ _ inferInstance (fun _ => ?_)
      clear hK_ K_
      try simp only [Act.put, List.setIfInBounds_toArray]; try simp only [List.set_cons_succ, List.set_cons_zero]
      refine' takeH (i := 4) (v := _) rfl (by kernel_rfl) (by kernel_rfl) (by kernel_rfl) (fun _ _ _ h => h) (yields_of (by rfl) (fun w' _ => ?_)) inferInstance ?_
      rotate_left
      · (go_simp; try with_reducible rfl)
      try simp only [Act.put, List.setIfInBounds_toArray]; try simp only [List.set_cons_succ, List.set_cons_zero]
      refine' takeH (i := 5) (v := _) rfl (by kernel_rfl) (by kernel_rfl) (by kernel_rfl) (fun _ _ _ h => h) (yields_of (by rfl) (fun w' _ => ?_)) inferInstance ?_
      rotate_left
      · (first | ((with_reducible apply (ev_loadKSeed (t := 23))); (exact rfl); (exact inferInstance); (exact inferInstance)) | ((with_reducible apply (ev_loadKUsed (t := 3))); (exact rfl); (exact inferInstance); (exact inferInstance)) | ((with_reducible apply ev_loadrow); (exact rfl); (exact inferInstance); (exact inferInstance); (first | (with_reducible assumption) | (with_reducible exact H32.size _) | kernel_rfl)) | ((with_reducible apply (ev_loadhash (t := 23))); (exact rfl); (exact inferInstance); (exact inferInstance); (first | (with_reducible assumption) | omega)) | ((with_reducible apply ev_loadcellN); (exact rfl); (exact inferInstance); (exact inferInstance); (exact rfl)) | ((with_reducible apply (ev_loadint (t := 3))); (exact rfl); (exact inferInstance); (exact inferInstance); (first | (with_reducible assumption) | omega)) | ((with_reducible apply (ev_loadbyte (t := 5))); (exact rfl); (exact inferInstance); (exact inferInstance); (first | (with_reducible assumption) | omega)) | (go_simp; try with_reducible rfl))
      try simp only [Act.put, List.setIfInBounds_toArray]; try simp only [List.set_cons_succ, List.set_cons_zero]
      refine' takeH (i := 6) (v := _) rfl (by kernel_rfl) (by kernel_rfl) (by kernel_rfl) (fun _ _ _ h => h) (yields_of (by rfl) (fun w' _ => ?_)) inferInstance ?_
      rotate_left
      · (go_simp; try with_reducible rfl)
      try simp only [Act.put, List.setIfInBounds_toArray]; try simp only [List.set_cons_succ, List.set_cons_zero]
      refine' takeH (i := 7) (v := _) rfl (by kernel_rfl) (by kernel_rfl) (by kernel_rfl) (fun _ _ _ h => h) (yields_of (by rfl) (fun w' _ => ?_)) inferInstance ?_
      rotate_left
      · (first | ((with_reducible apply (ev_loadKSeed (t := 23))); (exact rfl); (exact inferInstance); (exact inferInstance)) | ((with_reducible apply (ev_loadKUsed (t := 3))); (exact rfl); (exact inferInstance); (exact inferInstance)) | ((with_reducible apply ev_loadrow); (exact rfl); (exact inferInstance); (exact inferInstance); (first | (with_reducible assumption) | (with_reducible exact H32.size _) | kernel_rfl)) | ((with_reducible apply (ev_loadhash (t := 23))); (exact rfl); (exact inferInstance); (exact inferInstance); (first | (with_reducible assumption) | omega)) | ((with_reducible apply ev_loadcellN); (exact rfl); (exact inferInstance); (exact inferInstance); (exact rfl)) | ((with_reducible apply (ev_loadint (t := 3))); (exact rfl); (exact inferInstance); (exact inferInstance); (first | (with_reducible assumption) | omega)) | ((with_reducible apply (ev_loadbyte (t := 5))); (exact rfl); (exact inferInstance); (exact inferInstance); (first | (with_reducible assumption) | omega)) | (go_simp; try with_reducible rfl))
      try simp only [Act.put, List.setIfInBounds_toArray]; try simp only [List.set_cons_succ, List.set_cons_zero]
      refine goH (i := 8) (by kernel_rfl) rfl (fun K_ hK_ => ?_)
      go_simp
      refine (verify_calls N (used + 1) HNL.out hd hnl HTL.out HPBL.out).mono ?_
      rw [HV2.out]
      rintro e w9 ⟨rfl, _⟩
      refine hK_.out _ _ inferInstance (fun _ => ?_)
      clear hK_ K_
      try simp only [Act.put, List.setIfInBounds_toArray]; try simp only [List.set_cons_succ, List.set_cons_zero]
      refine' takeH (i := 9) (v := _) rfl (by kernel_rfl) (by kernel_rfl) (by kernel_rfl) (fun _ _ _ h => h) (yields_of (by rfl) (fun w' _ => ?_)) inferInstance ?_
      rotate_left
      · (go_simp; try with_reducible rfl)
      try simp only [Act.put, List.setIfInBounds_toArray]; try simp only [List.set_cons_succ, List.set_cons_zero]
      refine' takeH (i := 10) (v := _) rfl (by kernel_rfl) (by kernel_rfl) (by kernel_rfl) (fun _ _ _ h => h) (yields_of (by rfl) (fun w' _ => ?_)) inferInstance ?_
      rotate_left
      · (go_simp; try with_reducible rfl)
      try simp only [Act.put, List.setIfInBounds_toArray]; try simp only [List.set_cons_succ, List.set_cons_zero]
      refine' takeH (i := 11) (v := _) rfl (by kernel_rfl) (by kernel_rfl) (by kernel_rfl) (fun _ _ _ h => h) (yields_of (by rfl) (fun w' _ => ?_)) inferInstance ?_
      rotate_left
      · (first | ((with_reducible apply (ev_loadKSeed (t := 23))); (exact rfl); (exact inferInstance); (exact inferInstance)) | ((with_reducible apply (ev_loadKUsed (t := 3))); (exact rfl); (exact inferInstance); (exact inferInstance)) | ((with_reducible apply ev_loadrow); (exact rfl); (exact inferInstance); (exact inferInstance); (first | (with_reducible assumption) | (with_reducible exact H32.size _) | kernel_rfl)) | ((with_reducible apply (ev_loadhash (t := 23))); (exact rfl); (exact inferInstance); (exact inferInstance); (first | (with_reducible assumption) | omega)) | ((with_reducible apply ev_loadcellN); (exact rfl); (exact inferInstance); (exact inferInstance); (exact rfl)) | ((with_reducible apply (ev_loadint (t := 3))); (exact rfl); (exact inferInstance); (exact inferInstance); (first | (with_reducible assumption) | omega)) | ((with_reducible apply (ev_loadbyte (t := 5))); (exact rfl); (exact inferInstance); (exact inferInstance); (first | (with_reducible assumption) | omega)) | (go_simp; try with_reducible rfl))
      try simp only [Act.put, List.setIfInBounds_toArray]; try simp only [List.set_cons_succ, List.set_cons_zero]
      refine' takeH (i := 12) (v := _) rfl (by kernel_rfl) (by kernel_rfl) (by kernel_rfl) (fun _ _ _ h => h) (yields_of (by rfl) (fun w' _ => ?_)) inferInstance ?_
      rotate_left
      · (go_simp; try with_reducible rfl)
      try simp only [Act.put, List.setIfInBounds_toArray]; try simp only [List.set_cons_succ, List.set_cons_zero]
      refine' takeH (i := 13) (v := _) rfl (by kernel_rfl) (by kernel_rfl) (by kernel_rfl) (fun _ _ _ h => h) (yields_of (by rfl) (fun w' _ => ?_)) inferInstance ?_
      rotate_left
      · (first | ((with_reducible apply (ev_loadKSeed (t := 23))); (exact rfl); (exact inferInstance); (exact inferInstance)) | ((with_reducible apply (ev_loadKUsed (t := 3))); (exact rfl); (exact inferInstance); (exact inferInstance)) | ((with_reducible apply ev_loadrow); (exact rfl); (exact inferInstance); (exact inferInstance); (first | (with_reducible assumption) | (with_reducible exact H32.size _) | kernel_rfl)) | ((with_reducible apply (ev_loadhash (t := 23))); (exact rfl); (exact inferInstance); (exact inferInstance); (first | (with_reducible assumption) | omega)) | ((with_reducible apply ev_loadcellN); (exact rfl); (exact inferInstance); (exact inferInstance); (exact rfl)) | ((with_reducible apply (ev_loadint (t := 3))); (exact rfl); (exact inferInstance); (exact inferInstance); (first | (with_reducible assumption) | omega)) | ((with_reducible apply (ev_loadbyte (t := 5))); (exact rfl); (exact inferInstance); (exact inferInstance); (first | (with_reducible assumption) | omega)) | (go_simp; try with_reducible rfl))
      try simp only [Act.put, List.setIfInBounds_toArray]; try simp only [List.set_cons_succ, List.set_cons_zero]
      refine' takeH (i := 15) (v := _) rfl (by kernel_rfl) (by kernel_rfl) (by kernel_rfl) (fun _ _ _ h => h) (yields_of (by rfl) (fun w' _ => ?_)) inferInstance ?_
      rotate_left
      · (first | ((with_reducible apply (ev_loadKSeed (t := 23))); (exact rfl); (exact inferInstance); (exact inferInstance)) | ((with_reducible apply (ev_loadKUsed (t := 3))); (exact rfl); (exact inferInstance); (exact inferInstance)) | ((with_reducible apply ev_loadrow); (exact rfl); (exact inferInstance); (exact inferInstance); (first | (with_reducible assumption) | (with_reducible exact H32.size _) | kernel_rfl)) | ((with_reducible apply (ev_loadhash (t := 23))); (exact rfl); (exact inferInstance); (exact inferInstance); (first | (with_reducible assumption) | omega)) | ((with_reducible apply ev_loadcellN); (exact rfl); (exact inferInstance); (exact inferInstance); (exact rfl)) | ((with_reducible apply (ev_loadint (t := 3))); (exact rfl); (exact inferInstance); (exact inferInstance); (first | (with_reducible assumption) | omega)) | ((with_reducible apply (ev_loadbyte (t := 5))); (exact rfl); (exact inferInstance); (exact inferInstance); (first | (with_reducible assumption) | omega)) | (go_simp; try with_reducible rfl))
      try simp only [Act.put, List.setIfInBounds_toArray]; try simp only [List.set_cons_succ, List.set_cons_zero]
      refine' takeH (i := 16) (v := _) rfl (by kernel_rfl) (by kernel_rfl) (by kernel_rfl) (fun _ _ _ h => h) (yields_of (by rfl) (fun w' _ => ?_)) inferInstance ?_
      rotate_left
      · (go_simp; try with_reducible rfl)
      try simp only [Act.put, List.setIfInBounds_toArray]; try simp only [List.set_cons_succ, List.set_cons_zero]
      refine' takeH (i := 17) (v := _) rfl (by kernel_rfl) (by kernel_rfl) (by kernel_rfl) (fun _ _ _ h => h) (yields_of (by rfl) (fun w' _ => ?_)) inferInstance ?_
      rotate_left
      · (first | ((with_reducible apply (ev_loadKSeed (t := 23))); (exact rfl); (exact inferInstance); (exact inferInstance)) | ((with_reducible apply (ev_loadKUsed (t := 3))); (exact rfl); (exact inferInstance); (exact inferInstance)) | ((with_reducible apply ev_loadrow); (exact rfl); (exact inferInstance); (exact inferInstance); (first | (with_reducible assumption) | (with_reducible exact H32.size _) | kernel_rfl)) | ((with_reducible apply (ev_loadhash (t := 23))); (exact rfl); (exact inferInstance); (exact inferInstance); (first | (with_reducible assumption) | omega)) | ((with_reducible apply ev_loadcellN); (exact rfl); (exact inferInstance); (exact inferInstance); (exact rfl)) | ((with_reducible apply (ev_loadint (t := 3))); (exact rfl); (exact inferInstance); (exact inferInstance); (first | (with_reducible assumption) | omega)) | ((with_reducible apply (ev_loadbyte (t := 5))); (exact rfl); (exact inferInstance); (exact inferInstance); (first | (with_reducible assumption) | omega)) | (go_simp; try with_reducible rfl))
      try simp only [Act.put, List.setIfInBounds_toArray]; try simp only [List.set_cons_succ, List.set_cons_zero]
      refine goH (i := 14) (by kernel_rfl) rfl (fun K_ hK_ => ?_)
      go_simp
      refine (verify_calls N used HNL.out hd hnl HSL.out HPL.out).mono ?_
      rw [← HV3.out]
      rintro e w10 ⟨rfl, _⟩
      refine hK_.out _ _ inferInstance (fun _ => ?_)
      clear hK_ K_
      try simp only [Act.put, List.setIfInBounds_toArray]; try simp only [List.set_cons_succ, List.set_cons_zero]
      refine goH (i := 18) (by kernel_rfl) rfl (fun K_ hK_ => ?_)
      go_simp
      refine (rverify_calls N used HNL.out hnl HSL.out HPL.out).mono ?_
      rw [← HV3.out]
      rintro e w11 ⟨rfl, _⟩
      refine hK_.out _ _ inferInstance (fun _ => ?_)
      clear hK_ K_
      try simp only [Act.put, List.setIfInBounds_toArray]; try simp only [List.set_cons_succ, List.set_cons_zero]
      refine' takeH (i := 19) (v := _) rfl (by kernel_rfl) (by kernel_rfl) (by kernel_rfl) (fun _ _ _ h => h) (yields_of (by rfl) (fun w' _ => ?_)) inferInstance ?_
      rotate_left
      · (go_simp; try with_reducible rfl)
      try simp only [Act.put, List.setIfInBounds_toArray]; try simp only [List.set_cons_succ, List.set_cons_zero]
      refine' takeH (i := 20) (v := _) rfl (by kernel_rfl) (by kernel_rfl) (by kernel_rfl) (fun _ _ _ h => h) (yields_of (by rfl) (fun w' _ => ?_)) inferInstance ?_
      rotate_left
      · (go_simp; try with_reducible rfl)
      try simp only [Act.put, List.setIfInBounds_toArray]; try simp only [List.set_cons_succ, List.set_cons_zero]
      refine' takeH (i := 21) (v := _) rfl (by kernel_rfl) (by kernel_rfl) (by kernel_rfl) (fun _ _ _ h => h) (yields_of (by rfl) (fun w' _ => ?_)) inferInstance ?_
      rotate_left
      · (go_simp; try with_reducible rfl)
      try simp only [Act.put, List.setIfInBounds_toArray]; try simp only [List.set_cons_succ, List.set_cons_zero]
      refine' takeH (i := 22) (v := _) rfl (by kernel_rfl) (by kernel_rfl) (by kernel_rfl) (fun _ _ _ h => h) (yields_of (by rfl) (fun w' _ => ?_)) inferInstance ?_
      rotate_left
      · (first | ((with_reducible apply (ev_loadKSeed (t := 23))); (exact rfl); (exact inferInstance); (exact inferInstance)) | ((with_reducible apply (ev_loadKUsed (t := 3))); (exact rfl); (exact inferInstance); (exact inferInstance)) | ((with_reducible apply ev_loadrow); (exact rfl); (exact inferInstance); (exact inferInstance); (first | (with_reducible assumption) | (with_reducible exact H32.size _) | kernel_rfl)) | ((with_reducible apply (ev_loadhash (t := 23))); (exact rfl); (exact inferInstance); (exact inferInstance); (first | (with_reducible assumption) | omega)) | ((with_reducible apply ev_loadcellN); (exact rfl); (exact inferInstance); (exact inferInstance); (exact rfl)) | ((with_reducible apply (ev_loadint (t := 3))); (exact rfl); (exact inferInstance); (exact inferInstance); (first | (with_reducible assumption) | omega)) | ((with_reducible apply (ev_loadbyte (t := 5))); (exact rfl); (exact inferInstance); (exact inferInstance); (first | (with_reducible assumption) | omega)) | (go_simp; try with_reducible rfl))
      try simp only [Act.put, List.setIfInBounds_toArray]; try simp only [List.set_cons_succ, List.set_cons_zero]
      refine' takeH (i := 23) (v := _) rfl (by kernel_rfl) (by kernel_rfl) (by kernel_rfl) (fun _ _ _ h => h) (yields_of (by rfl) (fun w' _ => ?_)) inferInstance ?_
      rotate_left
      · (go_simp; try with_reducible rfl)
      try simp only [Act.put, List.setIfInBounds_toArray]; try simp only [List.set_cons_succ, List.set_cons_zero]
      refine' takeH (i := 24) (v := _) rfl (by kernel_rfl) (by kernel_rfl) (by kernel_rfl) (fun _ _ _ h => h) (yields_of (by rfl) (fun w' _ => ?_)) inferInstance ?_
      rotate_left
      · (first | ((with_reducible apply (ev_loadKSeed (t := 23))); (exact rfl); (exact inferInstance); (exact inferInstance)) | ((with_reducible apply (ev_loadKUsed (t := 3))); (exact rfl); (exact inferInstance); (exact inferInstance)) | ((with_reducible apply ev_loadrow); (exact rfl); (exact inferInstance); (exact inferInstance); (first | (with_reducible assumption) | (with_reducible exact H32.size _) | kernel_rfl)) | ((with_reducible apply (ev_loadhash (t := 23))); (exact rfl); (exact inferInstance); (exact inferInstance); (first | (with_reducible assumption) | omega)) | ((with_reducible apply ev_loadcellN); (exact rfl); (exact inferInstance); (exact inferInstance); (exact rfl)) | ((with_reducible apply (ev_loadint (t := 3))); (exact rfl); (exact inferInstance); (exact inferInstance); (first | (with_reducible assumption) | omega)) | ((with_reducible apply (ev_loadbyte (t := 5))); (exact rfl); (exact inferInstance); (exact inferInstance); (first | (with_reducible assumption) | omega)) | (go_simp; try with_reducible rfl))
      try simp only [Act.put, List.setIfInBounds_toArray]; try simp only [List.set_cons_succ, List.set_cons_zero]
      refine goH (i := 25) (by kernel_rfl) rfl (fun K_ hK_ => ?_)
      go_simp
      refine (verify_calls O used HM.out hc hml HSL.out HPL.out).mono ?_
      rw [HV4.out]
      rintro e w12 ⟨rfl, _⟩
      refine hK_.out _ _ inferInstance (fun _ => ?_)
      clear hK_ K_
      try simp only [Act.put, List.setIfInBounds_toArray]; try simp only [List.set_cons_succ, List.set_cons_zero]
      refine' takeH (i := 26) (v := _) rfl (by kernel_rfl) (by kernel_rfl) (by kernel_rfl) (fun _ _ _ h => h) (yields_of (by rfl) (fun w' _ => ?_)) inferInstance ?_
      rotate_left
      · (go_simp; try with_reducible rfl)
      try simp only [Act.put, List.setIfInBounds_toArray]; try simp only [List.set_cons_succ, List.set_cons_zero]
      refine' takeH (i := 27) (v := _) rfl (by kernel_rfl) (by kernel_rfl) (by kernel_rfl) (fun _ _ _ h => h) (yields_of (by rfl) (fun w' _ => ?_)) inferInstance ?_
      rotate_left
      · (go_simp; try with_reducible rfl)
      try simp only [Act.put, List.setIfInBounds_toArray]; try simp only [List.set_cons_succ, List.set_cons_zero]
      refine' takeH (i := 28) (v := _) rfl (by kernel_rfl) (by kernel_rfl) (by kernel_rfl) (fun _ _ _ h => h) (yields_of (by rfl) (fun w' _ => ?_)) inferInstance ?_
      rotate_left
      · (go_simp; try with_reducible rfl)
      try simp only [Act.put, List.setIfInBounds_toArray]; try simp only [List.set_cons_succ, List.set_cons_zero]
      refine goH (i := 29) (by kernel_rfl) rfl (fun K_ hK_ => ?_)
      go_simp
      refine (kyKnown_calls _).mono ?_
      rintro e w13 ⟨rfl, _⟩
      refine hK_.out _ _ inferInstance (fun _ => ?_)
      clear hK_ K_
      try simp only [Act.put, List.setIfInBounds_toArray]; try simp only [List.set_cons_succ, List.set_cons_zero]
      refine' takeH (i := 30) (v := _) rfl (by kernel_rfl) (by kernel_rfl) (by kernel_rfl) (fun _ _ _ h => h) (yields_of (by rfl) (fun w' _ => ?_)) inferInstance ?_
      rotate_left
      · (go_simp; try with_reducible rfl)
      try simp only [Act.put, List.setIfInBounds_toArray]; try simp only [List.set_cons_succ, List.set_cons_zero]
      refine' takeH (i := 31) (v := _) rfl (by kernel_rfl) (by kernel_rfl) (by kernel_rfl) (fun _ _ _ h => h) (yields_of (by rfl) (fun w' _ => ?_)) inferInstance ?_
      rotate_left
      · (go_simp; try with_reducible rfl)
      try simp only [Act.put, List.setIfInBounds_toArray]; try simp only [List.set_cons_succ, List.set_cons_zero]
      refine wpAnyH_done (by kernel_rfl) ?_ _
      go_wp2_with (first | go_skip | ((with_reducible apply wpl_alloc); intro z wz _ _ _) | ((with_reducible apply wpl_box_agg); (exact rfl); intro z wz _ _ _) | ((with_reducible apply wpl_box_int); (exact rfl); intro z wz _ _ _) | ((with_reducible apply wpl_box_slice); (exact rfl); intro z wz _ _ _) | ((with_reducible apply wpl_box_str); (exact rfl); intro z wz _ _ _) | ((with_reducible apply wpl_box_bool); (exact rfl); intro z wz _ _ _) | ((with_reducible apply wpl_box_ptr); (exact rfl); intro z wz _ _ _) | ((with_reducible apply (wpl_guard (op := .load _ _))); (exact rfl)) | ((with_reducible apply (wpl_guard (op := .fieldAddr _ _ _))); (exact rfl)) | ((with_reducible apply wpl_loadrow); (exact rfl); (exact inferInstance); (exact inferInstance); (first | (with_reducible assumption) | (with_reducible exact H32.size _) | kernel_rfl)) | ((with_reducible apply wpl_loadcellN); (exact rfl); (exact inferInstance); (exact rfl)) | ((with_reducible apply wpl_storerow); (exact rfl); (exact rfl); (exact inferInstance); (exact inferInstance); (first | (with_reducible assumption) | (with_reducible exact H32.size _) | kernel_rfl); (first | (with_reducible assumption) | (with_reducible exact H32.size _) | kernel_rfl); (first | (with_reducible exact u8s_one _) | (with_reducible assumption) | kernel_rfl); intro ws _ _) | ((with_reducible apply wpl_storecell); (exact rfl); (exact rfl); (exact inferInstance); (exact rfl); (first | (with_reducible assumption) | omega | (focus (simp; done)) | (focus (simp; omega; done)) | decide); intro ws _ _))
      go_ret
      exact ⟨rfl, (stepN (w0 := w)).chg⟩
    | true =>
      refine wp_region_N (nowhere) (by kernel_rfl) (fun wd _ _ => ?_)
      refine' takeH (i := 0) (v := _) rfl (by kernel_rfl) (by kernel_rfl) (by kernel_rfl) (fun _ _ _ h => h) (yields_of (by rfl) (fun w' _ => ?_)) inferInstance ?_
      rotate_left
      · (first | ((with_reducible apply (ev_loadKSeed (t := 23))); (exact rfl); (exact inferInstance); (exact inferInstance)) | ((with_reducible apply (ev_loadKUsed (t := 3))); (exact rfl); (exact inferInstance); (exact inferInstance)) | ((with_reducible apply ev_loadrow); (exact rfl); (exact inferInstance); (exact inferInstance); (first | (with_reducible assumption) | (with_reducible exact H32.size _) | kernel_rfl)) | ((with_reducible apply (ev_loadhash (t := 23))); (exact rfl); (exact inferInstance); (exact inferInstance); (first | (with_reducible assumption) | omega)) | ((with_reducible apply ev_loadcellN); (exact rfl); (exact inferInstance); (exact inferInstance); (exact rfl)) | ((with_reducible apply (ev_loadint (t := 3))); (exact rfl); (exact inferInstance); (exact inferInstance); (first | (with_reducible assumption) | omega)) | ((with_reducible apply (ev_loadbyte (t := 5))); (exact rfl); (exact inferInstance); (exact inferInstance); (first | (with_reducible assumption) | omega)) | (go_simp; try with_reducible rfl))
      try simp only [Act.put, List.setIfInBounds_toArray]; try simp only [List.set_cons_succ, List.set_cons_zero]
      refine' takeH (i := 1) (v := _) rfl (by kernel_rfl) (by kernel_rfl) (by kernel_rfl) (fun _ _ _ h => h) (yields_of (by rfl) (fun w' _ => ?_)) inferInstance ?_
      rotate_left
      · (go_simp; try with_reducible rfl)
      try simp only [Act.put, List.setIfInBounds_toArray]; try simp only [List.set_cons_succ, List.set_cons_zero]
      refine' takeH (i := 2) (v := _) rfl (by kernel_rfl) (by kernel_rfl) (by kernel_rfl) (fun _ _ _ h => h) (yields_of (by rfl) (fun w' _ => ?_)) inferInstance ?_
      rotate_left
      · (first | ((with_reducible apply (ev_loadKSeed (t := 23))); (exact rfl); (exact inferInstance); (exact inferInstance)) | ((with_reducible apply (ev_loadKUsed (t := 3))); (exact rfl); (exact inferInstance); (exact inferInstance)) | ((with_reducible apply ev_loadrow); (exact rfl); (exact inferInstance); (exact inferInstance); (first | (with_reducible assumption) | (with_reducible exact H32.size _) | kernel_rfl)) | ((with_reducible apply (ev_loadhash (t := 23))); (exact rfl); (exact inferInstance); (exact inferInstance); (first | (with_reducible assumption) | omega)) | ((with_reducible apply ev_loadcellN); (exact rfl); (exact inferInstance); (exact inferInstance); (exact rfl)) | ((with_reducible apply (ev_loadint (t := 3))); (exact rfl); (exact inferInstance); (exact inferInstance); (first | (with_reducible assumption) | omega)) | ((with_reducible apply (ev_loadbyte (t := 5))); (exact rfl); (exact inferInstance); (exact inferInstance); (first | (with_reducible assumption) | omega)) | (go_simp; try with_reducible rfl))
      try simp only [Act.put, List.setIfInBounds_toArray]; try simp only [List.set_cons_succ, List.set_cons_zero]
      refine goH (i := 3) (by kernel_rfl) rfl (fun K_ hK_ => ?_)
      go_simp
      refine (verify_calls N used HM.out hc hml HSL.out HPL.out).mono ?_
      rw [HV1.out]
      rintro e w8 ⟨rfl, _⟩
      refine hK_.out _ _ inferInstance (fun _ => ?_)
      clear hK_ K_
      try simp only [Act.put, List.setIfInBounds_toArray]; try simp only [List.set_cons_succ, List.set_cons_zero]
      refine' takeH (i := 4) (v := _) rfl (by kernel_rfl) (by kernel_rfl) (by kernel_rfl) (fun _ _ _ h => h) (yields_of (by rfl) (fun w' _ => ?_)) inferInstance ?_
      rotate_left
      · (go_simp; try with_reducible rfl)
      try simp only [Act.put, List.setIfInBounds_toArray]; try simp only [List.set_cons_succ, List.set_cons_zero]
      refine' takeH (i := 5) (v := _) rfl (by kernel_rfl) (by kernel_rfl) (by kernel_rfl) (fun _ _ _ h => h) (yields_of (by rfl) (fun w' _ => ?_)) inferInstance ?_
      rotate_left
      · (first | ((with_reducible apply (ev_loadKSeed (t := 23))); (exact rfl); (exact inferInstance); (exact inferInstance)) | ((with_reducible apply (ev_loadKUsed (t := 3))); (exact rfl); (exact inferInstance); (exact inferInstance)) | ((with_reducible apply ev_loadrow); (exact rfl); (exact inferInstance); (exact inferInstance); (first | (with_reducible assumption) | (with_reducible exact H32.size _) | kernel_rfl)) | ((with_reducible apply (ev_loadhash (t := 23))); (exact rfl); (exact inferInstance); (exact inferInstance); (first | (with_reducible assumption) | omega)) | ((with_reducible apply ev_loadcellN); (exact rfl); (exact inferInstance); (exact inferInstance); (exact rfl)) | ((with_reducible apply (ev_loadint (t := 3))); (exact rfl); (exact inferInstance); (exact inferInstance); (first | (with_reducible assumption) | omega)) | ((with_reducible apply (ev_loadbyte (t := 5))); (exact rfl); (exact inferInstance); (exact inferInstance); (first | (with_reducible assumption) | omega)) | (go_simp; try with_reducible rfl))
      try simp only [Act.put, List.setIfInBounds_toArray]; try simp only [List.set_cons_succ, List.set_cons_zero]
      refine' takeH (i := 6) (v := _) rfl (by kernel_rfl) (by kernel_rfl) (by kernel_rfl) (fun _ _ _ h => h) (yields_of (by rfl) (fun w' _ => ?_)) inferInstance ?_
      rotate_left
      · (go_simp; try with_reducible rfl)
      try simp only [Act.put, List.setIfInBounds_toArray]; try simp only [List.set_cons_succ, List.set_cons_zero]
      refine' takeH (i := 7) (v := _) rfl (by kernel_rfl) (by kernel_rfl) (by kernel_rfl) (fun _ _ _ h => h) (yields_of (by rfl) (fun w' _ => ?_)) inferInstance ?_
      rotate_left
      · (first | ((with_reducible apply (ev_loadKSeed (t := 23))); (exact rfl); (exact inferInstance); (exact inferInstance)) | ((with_reducible apply (ev_loadKUsed (t := 3))); (exact rfl); (exact inferInstance); (exact inferInstance)) | ((with_reducible apply ev_loadrow); (exact rfl); (exact inferInstance); (exact inferInstance); (first | (with_reducible assumption) | (with_reducible exact H32.size _) | kernel_rfl)) | ((with_reducible apply (ev_loadhash (t := 23))); (exact rfl); (exact inferInstance); (exact inferInstance); (first | (with_reducible assumption) | omega)) | ((with_reducible apply ev_loadcellN); (exact rfl); (exact inferInstance); (exact inferInstance); (exact rfl)) | ((with_reducible apply (ev_loadint (t := 3))); (exact rfl); (exact inferInstance); (exact inferInstance); (first | (with_reducible assumption) | omega)) | ((with_reducible apply (ev_loadbyte (t := 5))); (exact rfl); (exact inferInstance); (exact inferInstance); (first | (with_reducible assumption) | omega)) | (go_simp; try with_reducible rfl))
      try simp only [Act.put, List.setIfInBounds_toArray]; try simp only [List.set_cons_succ, List.set_cons_zero]
      refine goH (i := 8) (by kernel_rfl) rfl (fun K_ hK_ => ?_)
      go_simp
      refine (verify_calls N (used + 1) HNL.out hd hnl HTL.out HPBL.out).mono ?_
      rw [HV2.out]
      rintro e w9 ⟨rfl, _⟩
      refine hK_.out _ _ inferInstance (fun _ => ?_)
      clear hK_ K_
      try simp only [Act.put, List.setIfInBounds_toArray]; try simp only [List.set_cons_succ, List.set_cons_zero]
      refine' takeH (i := 9) (v := _) rfl (by kernel_rfl) (by kernel_rfl) (by kernel_rfl) (fun _ _ _ h => h) (yields_of (by rfl) (fun w' _ => ?_)) inferInstance ?_
      rotate_left
      · (go_simp; try with_reducible rfl)
      try simp only [Act.put, List.setIfInBounds_toArray]; try simp only [List.set_cons_succ, List.set_cons_zero]
      refine' takeH (i := 10) (v := _) rfl (by kernel_rfl) (by kernel_rfl) (by kernel_rfl) (fun _ _ _ h => h) (yields_of (by rfl) (fun w' _ => ?_)) inferInstance ?_
      rotate_left
      · (go_simp; try with_reducible rfl)
      try simp only [Act.put, List.setIfInBounds_toArray]; try simp only [List.set_cons_succ, List.set_cons_zero]
      refine' takeH (i := 11) (v := _) rfl (by kernel_rfl) (by kernel_rfl) (by kernel_rfl) (fun _ _ _ h => h) (yields_of (by rfl) (fun w' _ => ?_)) inferInstance ?_
      rotate_left
      · (first | ((with_reducible apply (ev_loadKSeed (t := 23))); (exact rfl); (exact inferInstance); (exact inferInstance)) | ((with_reducible apply (ev_loadKUsed (t := 3))); (exact rfl); (exact inferInstance); (exact inferInstance)) | ((with_reducible apply ev_loadrow); (exact rfl); (exact inferInstance); (exact inferInstance); (first | (with_reducible assumption) | (with_reducible exact H32.size _) | kernel_rfl)) | ((with_reducible apply (ev_loadhash (t := 23))); (exact rfl); (exact inferInstance); (exact inferInstance); (first | (with_reducible assumption) | omega)) | ((with_reducible apply ev_loadcellN); (exact rfl); (exact inferInstance); (exact inferInstance); (exact rfl)) | ((with_reducible apply (ev_loadint (t := 3))); (exact rfl); (exact inferInstance); (exact inferInstance); (first | (with_reducible assumption) | omega)) | ((with_reducible apply (ev_loadbyte (t := 5))); (exact rfl); (exact inferInstance); (exact inferInstance); (first | (with_reducible assumption) | omega)) | (go_simp; try with_reducible rfl))
      try simp only [Act.put, List.setIfInBounds_toArray]; try simp only [List.set_cons_succ, List.set_cons_zero]
      refine' takeH (i := 12) (v := _) rfl (by kernel_rfl) (by kernel_rfl) (by kernel_rfl) (fun _ _ _ h => h) (yields_of (by rfl) (fun w' _ => ?_)) inferInstance ?_
      rotate_left
      · (go_simp; try with_reducible rfl)
      try simp only [Act.put, List.setIfInBounds_toArray]; try simp only [List.set_cons_succ, List.set_cons_zero]
      refine' takeH (i := 13) (v := _) rfl (by kernel_rfl) (by kernel_rfl) (by kernel_rfl) (fun _ _ _ h => h) (yields_of (by rfl) (fun w' _ => ?_)) inferInstance ?_
      rotate_left
      · (first | ((with_reducible apply (ev_loadKSeed (t := 23))); (exact rfl); (exact inferInstance); (exact inferInstance)) | ((with_reducible apply (ev_loadKUsed (t := 3))); (exact rfl); (exact inferInstance); (exact inferInstance)) | ((with_reducible apply ev_loadrow); (exact rfl); (exact inferInstance); (exact inferInstance); (first | (with_reducible assumption) | (with_reducible exact H32.size _) | kernel_rfl)) | ((with_reducible apply (ev_loadhash (t := 23))); (exact rfl); (exact inferInstance); (exact inferInstance); (first | (with_reducible assumption) | omega)) | ((with_reducible apply ev_loadcellN); (exact rfl); (exact inferInstance); (exact inferInstance); (exact rfl)) | ((with_reducible apply (ev_loadint (t := 3))); (exact rfl); (exact inferInstance); (exact inferInstance); (first | (with_reducible assumption) | omega)) | ((with_reducible apply (ev_loadbyte (t := 5))); (exact rfl); (exact inferInstance); (exact inferInstance); (first | (with_reducible assumption) | omega)) | (go_simp; try with_reducible rfl))
      try simp only [Act.put, List.setIfInBounds_toArray]; try simp only [List.set_cons_succ, List.set_cons_zero]
      refine' takeH (i := 15) (v := _) rfl (by kernel_rfl) (by kernel_rfl) (by kernel_rfl) (fun _ _ _ h => h) (yields_of (by rfl) (fun w' _ => ?_)) inferInstance ?_
      rotate_left
      · (first | ((with_reducible apply (ev_loadKSeed (t := 23))); (exact rfl); (exact inferInstance); (exact inferInstance)) | ((with_reducible apply (ev_loadKUsed (t := 3))); (exact rfl); (exact inferInstance); (exact inferInstance)) | ((with_reducible apply ev_loadrow); (exact rfl); (exact inferInstance); (exact inferInstance); (first | (with_reducible assumption) | (with_reducible exact H32.size _) | kernel_rfl)) | ((with_reducible apply (ev_loadhash (t := 23))); (exact rfl); (exact inferInstance); (exact inferInstance); (first | (with_reducible assumption) | omega)) | ((with_reducible apply ev_loadcellN); (exact rfl); (exact inferInstance); (exact inferInstance); (exact rfl)) | ((with_reducible apply (ev_loadint (t := 3))); (exact rfl); (exact inferInstance); (exact inferInstance); (first | (with_reducible assumption) | omega)) | ((with_reducible apply (ev_loadbyte (t := 5))); (exact rfl); (exact inferInstance); (exact inferInstance); (first | (with_reducible assumption) | omega)) | (go_simp; try with_reducible rfl))
      try simp only [Act.put, List.setIfInBounds_toArray]; try simp only [List.set_cons_succ, List.set_cons_zero]
      refine' takeH (i := 16) (v := _) rfl (by kernel_rfl) (by kernel_rfl) (by kernel_rfl) (fun _ _ _ h => h) (yields_of (by rfl) (fun w' _ => ?_)) inferInstance ?_
      rotate_left
      · (go_simp; try with_reducible rfl)
      try simp only [Act.put, List.setIfInBounds_toArray]; try simp only [List.set_cons_succ, List.set_cons_zero]
      refine' takeH (i := 17) (v := _) rfl (by kernel_rfl) (by kernel_rfl) (by kernel_rfl) (fun _ _ _ h => h) (yields_of (by rfl) (fun w' _ => ?_)) inferInstance ?_
      rotate_left
      · (first | ((with_reducible apply (ev_loadKSeed (t := 23))); (exact rfl); (exact inferInstance); (exact inferInstance)) | ((with_reducible apply (ev_loadKUsed (t := 3))); (exact rfl); (exact inferInstance); (exact inferInstance)) | ((with_reducible apply ev_loadrow); (exact rfl); (exact inferInstance); (exact inferInstance); (first | (with_reducible assumption) | (with_reducible exact H32.size _) | kernel_rfl)) | ((with_reducible apply (ev_loadhash (t := 23))); (exact rfl); (exact inferInstance); (exact inferInstance); (first | (with_reducible assumption) | omega)) | ((with_reducible apply ev_loadcellN); (exact rfl); (exact inferInstance); (exact inferInstance); (exact rfl)) | ((with_reducible apply (ev_loadint (t := 3))); (exact rfl); (exact inferInstance); (exact inferInstance); (first | (with_reducible assumption) | omega)) | ((with_reducible apply (ev_loadbyte (t := 5))); (exact rfl); (exact inferInstance); (exact inferInstance); (first | (with_reducible assumption) | omega)) | (go_simp; try with_reducible rfl))
      try simp only [Act.put, List.setIfInBounds_toArray]; try simp only [List.set_cons_succ, List.set_cons_zero]
      refine goH (i := 14) (by kernel_rfl) rfl (fun K_ hK_ => ?_)
      go_simp
      refine (verify_calls N used HNL.out hd hnl HSL.out HPL.out).mono ?_
      rw [← HV3.out]
      rintro e w10 ⟨rfl, _⟩
      refine hK_.out _ _ inferInstance (fun _ => ?_)
      clear hK_ K_
      try simp only [Act.put, List.setIfInBounds_toArray]; try simp only [List.set_cons_succ, List.set_cons_zero]
      refine goH (i := 18) (by kernel_rfl) rfl (fun K_ hK_ => ?_)
      go_simp
      refine (rverify_calls N used HNL.out hnl HSL.out HPL.out).mono ?_
      rw [← HV3.out]
      rintro e w11 ⟨rfl, _⟩
      refine hK_.out _ _ inferInstance (fun _ => ?_)
      clear hK_ K_
      try simp only [Act.put, List.setIfInBounds_toArray]; try simp only [List.set_cons_succ, List.set_cons_zero]
      refine' takeH (i := 19) (v := _) rfl (by kernel_rfl) (by kernel_rfl) (by kernel_rfl) (fun _ _ _ h => h) (yields_of (by rfl) (fun w' _ => ?_)) inferInstance ?_
      rotate_left
      · (go_simp; try with_reducible rfl)
      try simp only [Act.put, List.setIfInBounds_toArray]; try simp only [List.set_cons_succ, List.set_cons_zero]
      refine' takeH (i := 20) (v := _) rfl (by kernel_rfl) (by kernel_rfl) (by kernel_rfl) (fun _ _ _ h => h) (yields_of (by rfl) (fun w' _ => ?_)) inferInstance ?_
      rotate_left
      · (go_simp; try with_reducible rfl)
      try simp only [Act.put, List.setIfInBounds_toArray]; try simp only [List.set_cons_succ, List.set_cons_zero]
      refine' takeH (i := 21) (v := _) rfl (by kernel_rfl) (by kernel_rfl) (by kernel_rfl) (fun _ _ _ h => h) (yields_of (by rfl) (fun w' _ => ?_)) inferInstance ?_
      rotate_left
      · (go_simp; try with_reducible rfl)
      try simp only [Act.put, List.setIfInBounds_toArray]; try simp only [List.set_cons_succ, List.set_cons_zero]
      refine' takeH (i := 22) (v := _) rfl (by kernel_rfl) (by kernel_rfl) (by kernel_rfl) (fun _ _ _ h => h) (yields_of (by rfl) (fun w' _ => ?_)) inferInstance ?_
      rotate_left
      · (first | ((with_reducible apply (ev_loadKSeed (t := 23))); (exact rfl); (exact inferInstance); (exact inferInstance)) | ((with_reducible apply (ev_loadKUsed (t := 3))); (exact rfl); (exact inferInstance); (exact inferInstance)) | ((with_reducible apply ev_loadrow); (exact rfl); (exact inferInstance); (exact inferInstance); (first | (with_reducible assumption) | (with_reducible exact H32.size _) | kernel_rfl)) | ((with_reducible apply (ev_loadhash (t := 23))); (exact rfl); (exact inferInstance); (exact inferInstance); (first | (with_reducible assumption) | omega)) | ((with_reducible apply ev_loadcellN); (exact rfl); (exact inferInstance); (exact inferInstance); (exact rfl)) | ((with_reducible apply (ev_loadint (t := 3))); (exact rfl); (exact inferInstance); (exact inferInstance); (first | (with_reducible assumption) | omega)) | ((with_reducible apply (ev_loadbyte (t := 5))); (exact rfl); (exact inferInstance); (exact inferInstance); (first | (with_reducible assumption) | omega)) | (go_simp; try with_reducible rfl))
      try simp only [Act.put, List.setIfInBounds_toArray]; try simp only [List.set_cons_succ, List.set_cons_zero]
      refine' takeH (i := 23) (v := _) rfl (by kernel_rfl) (by kernel_rfl) (by kernel_rfl) (fun _ _ _ h => h) (yields_of (by rfl) (fun w' _ => ?_)) inferInstance ?_
      rotate_left
      · (go_simp; try with_reducible rfl)
      try simp only [Act.put, List.setIfInBounds_toArray]; try simp only [List.set_cons_succ, List.set_cons_zero]
      refine' takeH (i := 24) (v := _) rfl (by kernel_rfl) (by kernel_rfl) (by kernel_rfl) (fun _ _ _ h => h) (yields_of (by rfl) (fun w' _ => ?_)) inferInstance ?_
      rotate_left
      · (first | ((with_reducible apply (ev_loadKSeed (t := 23))); (exact rfl); (exact inferInstance); (exact inferInstance)) | ((with_reducible apply (ev_loadKUsed (t := 3))); (exact rfl); (exact inferInstance); (exact inferInstance)) | ((with_reducible apply ev_loadrow); (exact rfl); (exact inferInstance); (exact inferInstance); (first | (with_reducible assumption) | (with_reducible exact H32.size _) | kernel_rfl)) | ((with_reducible apply (ev_loadhash (t := 23))); (exact rfl); (exact inferInstance); (exact inferInstance); (first | (with_reducible assumption) | omega)) | ((with_reducible apply ev_loadcellN); (exact rfl); (exact inferInstance); (exact inferInstance); (exact rfl)) | ((with_reducible apply (ev_loadint (t := 3))); (exact rfl); (exact inferInstance); (exact inferInstance); (first | (with_reducible assumption) | omega)) | ((with_reducible apply (ev_loadbyte (t := 5))); (exact rfl); (exact inferInstance); (exact inferInstance); (first | (with_reducible assumption) | omega)) | (go_simp; try with_reducible rfl))
      try simp only [Act.put, List.setIfInBounds_toArray]; try simp only [List.set_cons_succ, List.set_cons_zero]
      refine goH (i := 25) (by kernel_rfl) rfl (fun K_ hK_ => ?_)
      go_simp
      refine (verify_calls O used HM.out hc hml HSL.out HPL.out).mono ?_
      rw [HV4.out]
      rintro e w12 ⟨rfl, _⟩
      refine hK_.out _ _ inferInstance (fun _ => ?_)
      clear hK_ K_
      try simp only [Act.put, List.setIfInBounds_toArray]; try simp only [List.set_cons_succ, List.set_cons_zero]
      refine' takeH (i := 26) (v := _) rfl (by kernel_rfl) (by kernel_rfl) (by kernel_rfl) (fun _ _ _ h => h) (yields_of (by rfl) (fun w' _ => ?_)) inferInstance ?_
      rotate_left
      · (go_simp; try with_reducible rfl)
      try simp only [Act.put, List.setIfInBounds_toArray]; try simp only [List.set_cons_succ, List.set_cons_zero]
      refine' takeH (i := 27) (v := _) rfl (by kernel_rfl) (by kernel_rfl) (by kernel_rfl) (fun _ _ _ h => h) (yields_of (by rfl) (fun w' _ => ?_)) inferInstance ?_
      rotate_left
      · (go_simp; try with_reducible rfl)
      try simp only [Act.put, List.setIfInBounds_toArray]; try simp only [List.set_cons_succ, List.set_cons_zero]
      refine' takeH (i := 28) (v := _) rfl (by kernel_rfl) (by kernel_rfl) (by kernel_rfl) (fun _ _ _ h => h) (yields_of (by rfl) (fun w' _ => ?_)) inferInstance ?_
      rotate_left
      · (go_simp; try with_reducible rfl)
      try simp only [Act.put, List.setIfInBounds_toArray]; try simp only [List.set_cons_succ, List.set_cons_zero]
      refine goH (i := 29) (by kernel_rfl) rfl (fun K_ hK_ => ?_)
      go_simp
      refine (kyKnown_calls _).mono ?_
      rintro e w13 ⟨rfl, _⟩
      refine hK_.out _ _ inferInstance (fun _ => ?_)
      clear hK_ K_
      try simp only [Act.put, List.setIfInBounds_toArray]; try simp only [List.set_cons_succ, List.set_cons_zero]
      refine' takeH (i := 30) (v := _) rfl (by kernel_rfl) (by kernel_rfl) (by kernel_rfl) (fun _ _ _ h => h) (yields_of (by rfl) (fun w' _ => ?_)) inferInstance ?_
      rotate_left
      · (go_simp; try with_reducible rfl)
      try simp only [Act.put, List.setIfInBounds_toArray]; try simp only [List.set_cons_succ, List.set_cons_zero]
      refine' takeH (i := 31) (v := _) rfl (by kernel_rfl) (by kernel_rfl) (by kernel_rfl) (fun _ _ _ h => h) (yields_of (by rfl) (fun w' _ => ?_)) inferInstance ?_
      rotate_left
      · (go_simp; try with_reducible rfl)
      try simp only [Act.put, List.setIfInBounds_toArray]; try simp only [List.set_cons_succ, List.set_cons_zero]
      refine wpAnyH_done (by kernel_rfl) ?_ _
      go_wp2_with (first | go_skip | ((with_reducible apply wpl_alloc); intro z wz _ _ _) | ((with_reducible apply wpl_box_agg); (exact rfl); intro z wz _ _ _) | ((with_reducible apply wpl_box_int); (exact rfl); intro z wz _ _ _) | ((with_reducible apply wpl_box_slice); (exact rfl); intro z wz _ _ _) | ((with_reducible apply wpl_box_str); (exact rfl); intro z wz _ _ _) | ((with_reducible apply wpl_box_bool); (exact rfl); intro z wz _ _ _) | ((with_reducible apply wpl_box_ptr); (exact rfl); intro z wz _ _ _) | ((with_reducible apply (wpl_guard (op := .load _ _))); (exact rfl)) | ((with_reducible apply (wpl_guard (op := .fieldAddr _ _ _))); (exact rfl)) | ((with_reducible apply wpl_loadrow); (exact rfl); (exact inferInstance); (exact inferInstance); (first | (with_reducible assumption) | (with_reducible exact H32.size _) | kernel_rfl)) | ((with_reducible apply wpl_loadcellN); (exact rfl); (exact inferInstance); (exact rfl)) | ((with_reducible apply wpl_storerow); (exact rfl); (exact rfl); (exact inferInstance); (exact inferInstance); (first | (with_reducible assumption) | (with_reducible exact H32.size _) | kernel_rfl); (first | (with_reducible assumption) | (with_reducible exact H32.size _) | kernel_rfl); (first | (with_reducible exact u8s_one _) | (with_reducible assumption) | kernel_rfl); intro ws _ _) | ((with_reducible apply wpl_storecell); (exact rfl); (exact rfl); (exact inferInstance); (exact rfl); (first | (with_reducible assumption) | omega | (focus (simp; done)) | (focus (simp; omega; done)) | decide); intro ws _ _))
      go_ret
      exact ⟨rfl, (stepN (w0 := w)).chg⟩
end Go.Proofs.Ytmijlojjkgeplaa
