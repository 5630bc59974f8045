/- KeyTurned. -/
import Derived.Test.YtmijlojjkgeplaaKyG
open Go Go.RowKit
namespace Go.Proofs.Ytmijlojjkgeplaa
instance OffB.rowNewKey (w : World) (A : Option Addr) (g : Nat) (seed : H32) (used : Int) [b : NewA w A] [h : KeyAt w g seed used] : OffB (rowOf A) g := ⟨fun ⟨ad, e, hk⟩ => by
  have h1 := b.out ad e
  have h2 := h.lt
  omega⟩
theorem path_step (l : List H32) (m h d i : Nat) (hl : l.length = m) (h2 : 2 ≤ m) (hh : halfN m = h) (hm : m = h + h) (hi : i < m) (ih : ∀ (l' : List H32) (i' : Nat), l'.length = h → i' < h → (pathL l' i').length = d) : (pathL l i).length = d + 1 := by
  by_cases hlo : i < halfN l.length
  · rw [pathL_lo l i (by omega) hlo, List.length_append, List.length_singleton, ih _ i (by rw [List.length_take, hl, hh]; omega) (by rw [hl, hh] at hlo; exact hlo)]
  · rw [pathL_hi l i (by omega) hlo, List.length_append, List.length_singleton, ih _ _ (by rw [List.length_drop, hl, hh]; omega) (by rw [hl, hh]; rw [hl, hh] at hlo; omega)]
theorem path16 (l : List H32) (i : Nat) (hl : l.length = 16) (hi : i < 16) : (pathL l i).length = 4 :=
  path_step l 16 8 3 i hl (by decide) (by decide) rfl hi fun l i hl hi => path_step l 8 4 2 i hl (by decide) (by decide) rfl hi fun l i hl hi => path_step l 4 2 1 i hl (by decide) (by decide) rfl hi fun l i hl hi => path_step l 2 1 0 i hl (by decide) (by decide) rfl hi fun l i hl hi => by rw [pathL_small _ _ (by omega)]; rfl
theorem pathA16 (seed : H32) (i : Nat) (hi : i < 16) : (pathA (leavesS seed) (i : Int)).length = 4 := by
  rw [pathA, if_neg (by rw [leavesS_len]; omega)]
  exact path16 _ _ (leavesS_len seed) (by omega)
theorem signS_len (seed : H32) (leaf : Int) (m : List UInt8) : (signS seed leaf m).length = 36 := by simp [signS, mapH]
theorem i64_and31 (a : Int) : bits .and .i64 a 31 = a % 32 := by
  show IntKind.i64.wrap ((BitVec.ofInt 64 a &&& BitVec.ofInt 64 31).toNat : Int) = _
  have h1 : (BitVec.ofInt 64 31).toNat = 2 ^ 5 - 1 := by decide
  rw [BitVec.toNat_and, h1, Nat.and_two_pow_sub_one_eq_mod, BitVec.toNat_ofInt, IntKind.wrap_i64]
  omega
theorem i64_and65535 (a : Int) : bits .and .i64 a 65535 = a % 65536 := by
  show IntKind.i64.wrap ((BitVec.ofInt 64 a &&& BitVec.ofInt 64 65535).toNat : Int) = _
  have h1 : (BitVec.ofInt 64 65535).toNat = 2 ^ 16 - 1 := by decide
  rw [BitVec.toNat_and, h1, Nat.and_two_pow_sub_one_eq_mod, BitVec.toNat_ofInt, IntKind.wrap_i64]
  omega
set_option maxRecDepth 100000 in
set_option maxHeartbeats 1600000 in
theorem keyTurned_calls (seed : H32) (at_ place : Int) (by_ : UInt8) {A : Option Addr} {ml c : Nat} {m : List UInt8} {w : World} [hr : HR w A (bs m)] (hm : m.length = ml) (hc : ml ≤ c) :
    Calls Try.prog 7 #[.agg (u8s seed.l), .slice A ml c, .int .i64 at_, .int .i64 place, .int .u8 (by_.toNat : Int)] w fun e w' => e = .returned (.bool true) ∧ Chg nowhere w w' := by
  by_cases c1 : (2000 : Int) < ml
  · go_enter Try.func7, Try.ntmps7
    go_wp2_with (first | go_skip | ((with_reducible apply (wpl_alloc (dst := some 5))); intro zs wzs _ _ _) | ((with_reducible apply (wpl_box_agg (dst := some 5))); (exact rfl); intro zs wzs _ _ _) | ((with_reducible apply (wpl_box_int (dst := some 5))); (exact rfl); intro zs wzs _ _ _) | ((with_reducible apply (wpl_box_slice (dst := some 5))); (exact rfl); intro zs wzs _ _ _) | ((with_reducible apply (wpl_box_str (dst := some 5))); (exact rfl); intro zs wzs _ _ _) | ((with_reducible apply (wpl_box_bool (dst := some 5))); (exact rfl); intro zs wzs _ _ _) | ((with_reducible apply (wpl_box_ptr (dst := some 5))); (exact rfl); intro zs wzs _ _ _) | ((with_reducible apply wpl_alloc); intro z wz _ _ _) | ((with_reducible apply wpl_box_agg); (exact rfl); intro z wz _ _ _) | ((with_reducible apply wpl_box_int); (exact rfl); intro z wz _ _ _) | ((with_reducible apply wpl_box_slice); (exact rfl); intro z wz _ _ _) | ((with_reducible apply wpl_box_str); (exact rfl); intro z wz _ _ _) | ((with_reducible apply wpl_box_bool); (exact rfl); intro z wz _ _ _) | ((with_reducible apply wpl_box_ptr); (exact rfl); intro z wz _ _ _) | ((with_reducible apply (wpl_guard (op := .load _ _))); (exact rfl)) | ((with_reducible apply wpl_loadrow); (exact rfl); (exact inferInstance); (exact inferInstance); (first | (with_reducible assumption) | (with_reducible exact H32.size _) | kernel_rfl)) | ((with_reducible apply wpl_loadcellN); (exact rfl); (exact inferInstance); (exact rfl)) | ((with_reducible apply wpl_storerow); (exact rfl); (exact rfl); (exact inferInstance); (exact inferInstance); (first | (with_reducible assumption) | (with_reducible exact H32.size _) | kernel_rfl); (first | (with_reducible assumption) | (with_reducible exact H32.size _) | kernel_rfl); (first | (with_reducible exact u8s_one _) | (with_reducible assumption) | kernel_rfl); intro ws _ _) | ((with_reducible apply wpl_storecell); (exact rfl); (exact rfl); (exact inferInstance); (exact rfl); (first | (with_reducible assumption) | omega | (focus (simp; done)) | (focus (simp; omega; done)) | decide); intro ws _ _))
    go_ret
    exact ⟨rfl, (stepN (w0 := w)).chg⟩
  cases h0 : ((by_.toNat : Int) == 0)
  case true =>
    go_enter Try.func7, Try.ntmps7
    go_wp2_with (first | go_skip | ((with_reducible apply (wpl_alloc (dst := some 5))); intro zs wzs _ _ _) | ((with_reducible apply (wpl_box_agg (dst := some 5))); (exact rfl); intro zs wzs _ _ _) | ((with_reducible apply (wpl_box_int (dst := some 5))); (exact rfl); intro zs wzs _ _ _) | ((with_reducible apply (wpl_box_slice (dst := some 5))); (exact rfl); intro zs wzs _ _ _) | ((with_reducible apply (wpl_box_str (dst := some 5))); (exact rfl); intro zs wzs _ _ _) | ((with_reducible apply (wpl_box_bool (dst := some 5))); (exact rfl); intro zs wzs _ _ _) | ((with_reducible apply (wpl_box_ptr (dst := some 5))); (exact rfl); intro zs wzs _ _ _) | ((with_reducible apply wpl_alloc); intro z wz _ _ _) | ((with_reducible apply wpl_box_agg); (exact rfl); intro z wz _ _ _) | ((with_reducible apply wpl_box_int); (exact rfl); intro z wz _ _ _) | ((with_reducible apply wpl_box_slice); (exact rfl); intro z wz _ _ _) | ((with_reducible apply wpl_box_str); (exact rfl); intro z wz _ _ _) | ((with_reducible apply wpl_box_bool); (exact rfl); intro z wz _ _ _) | ((with_reducible apply wpl_box_ptr); (exact rfl); intro z wz _ _ _) | ((with_reducible apply (wpl_guard (op := .load _ _))); (exact rfl)) | ((with_reducible apply wpl_loadrow); (exact rfl); (exact inferInstance); (exact inferInstance); (first | (with_reducible assumption) | (with_reducible exact H32.size _) | kernel_rfl)) | ((with_reducible apply wpl_loadcellN); (exact rfl); (exact inferInstance); (exact rfl)) | ((with_reducible apply wpl_storerow); (exact rfl); (exact rfl); (exact inferInstance); (exact inferInstance); (first | (with_reducible assumption) | (with_reducible exact H32.size _) | kernel_rfl); (first | (with_reducible assumption) | (with_reducible exact H32.size _) | kernel_rfl); (first | (with_reducible exact u8s_one _) | (with_reducible assumption) | kernel_rfl); intro ws _ _) | ((with_reducible apply wpl_storecell); (exact rfl); (exact rfl); (exact inferInstance); (exact rfl); (first | (with_reducible assumption) | omega | (focus (simp; done)) | (focus (simp; omega; done)) | decide); intro ws _ _))
    go_ret
    exact ⟨rfl, (stepN (w0 := w)).chg⟩
  obtain ⟨N, hN⟩ : ∃ N, N = pubS seed := ⟨_, rfl⟩
  have HN := Lib.hid hN
  obtain ⟨S, hS⟩ : ∃ S, S = signS seed 0 m := ⟨_, rfl⟩
  obtain ⟨Pa, hP⟩ : ∃ Pa, Pa = pathA (leavesS seed) 0 := ⟨_, rfl⟩
  have HS := Lib.hid hS
  have HP := Lib.hid hP
  have HSL : Hid (S.length = 36) := Lib.hid (by rw [hS, signS_len])
  have HPL : Hid (Pa.length = 4) := Lib.hid (by rw [hP]; exact pathA16 seed 0 (by decide))
  have HM := Lib.hid hm
  obtain ⟨j, hj⟩ : ∃ j : Nat, (j : Int) = (at_ % 65536) % 40 := ⟨((at_ % 65536) % 40).toNat, by omega⟩
  have hj40 : j < 40 := by omega
  have hbits : (bits .and .i64 at_ 65535).tmod 40 = (j : Int) := by rw [i64_and65535, Int.tmod_eq_emod_of_nonneg (Int.emod_nonneg _ (by decide)), hj]
  obtain ⟨q, hq⟩ : ∃ q : Nat, (q : Int) = place % 32 := ⟨(place % 32).toNat, by omega⟩
  have hq32 : q < 32 := by omega
  have hbq : bits .and .i64 place 31 = (q : Int) := by rw [i64_and31, hq]
  have HBI := Lib.hid hbits
  have hSl := HSL.out
  have hPl := HPL.out
  clear hN hS hP hm hj hq
  by_cases h36 : j < 36
  · have hlt : (bits .and .i64 at_ 65535).tmod 40 < 36 := by omega
    clear hbits
    go_enter Try.func7, Try.ntmps7
    go_wp2_with (first | go_skip | ((with_reducible apply (wpl_alloc (dst := some 5))); intro zs wzs _ _ _) | ((with_reducible apply (wpl_box_agg (dst := some 5))); (exact rfl); intro zs wzs _ _ _) | ((with_reducible apply (wpl_box_int (dst := some 5))); (exact rfl); intro zs wzs _ _ _) | ((with_reducible apply (wpl_box_slice (dst := some 5))); (exact rfl); intro zs wzs _ _ _) | ((with_reducible apply (wpl_box_str (dst := some 5))); (exact rfl); intro zs wzs _ _ _) | ((with_reducible apply (wpl_box_bool (dst := some 5))); (exact rfl); intro zs wzs _ _ _) | ((with_reducible apply (wpl_box_ptr (dst := some 5))); (exact rfl); intro zs wzs _ _ _) | ((with_reducible apply wpl_alloc); intro z wz _ _ _) | ((with_reducible apply wpl_box_agg); (exact rfl); intro z wz _ _ _) | ((with_reducible apply wpl_box_int); (exact rfl); intro z wz _ _ _) | ((with_reducible apply wpl_box_slice); (exact rfl); intro z wz _ _ _) | ((with_reducible apply wpl_box_str); (exact rfl); intro z wz _ _ _) | ((with_reducible apply wpl_box_bool); (exact rfl); intro z wz _ _ _) | ((with_reducible apply wpl_box_ptr); (exact rfl); intro z wz _ _ _) | ((with_reducible apply (wpl_guard (op := .load _ _))); (exact rfl)) | ((with_reducible apply wpl_loadrow); (exact rfl); (exact inferInstance); (exact inferInstance); (first | (with_reducible assumption) | (with_reducible exact H32.size _) | kernel_rfl)) | ((with_reducible apply wpl_loadcellN); (exact rfl); (exact inferInstance); (exact rfl)) | ((with_reducible apply wpl_storerow); (exact rfl); (exact rfl); (exact inferInstance); (exact inferInstance); (first | (with_reducible assumption) | (with_reducible exact H32.size _) | kernel_rfl); (first | (with_reducible assumption) | (with_reducible exact H32.size _) | kernel_rfl); (first | (with_reducible exact u8s_one _) | (with_reducible assumption) | kernel_rfl); intro ws _ _) | ((with_reducible apply wpl_storecell); (exact rfl); (exact rfl); (exact inferInstance); (exact rfl); (first | (with_reducible assumption) | omega | (focus (simp; done)) | (focus (simp; omega; done)) | decide); intro ws _ _))
    refine (newIn_calls seed 0 _ (by decide) (by decide)).mono ?_
    rintro e w5 ⟨z1, rfl, _, _, _⟩
    have n5 : Nw w w5 := inferInstance
    go_wp2_with (first | go_skip | ((with_reducible apply wpl_alloc); intro z wz _ _ _) | ((with_reducible apply wpl_box_agg); (exact rfl); intro z wz _ _ _) | ((with_reducible apply wpl_box_int); (exact rfl); intro z wz _ _ _) | ((with_reducible apply wpl_box_slice); (exact rfl); intro z wz _ _ _) | ((with_reducible apply wpl_box_str); (exact rfl); intro z wz _ _ _) | ((with_reducible apply wpl_box_bool); (exact rfl); intro z wz _ _ _) | ((with_reducible apply wpl_box_ptr); (exact rfl); intro z wz _ _ _) | ((with_reducible apply (wpl_guard (op := .load _ _))); (exact rfl)) | ((with_reducible apply wpl_loadrow); (exact rfl); (exact inferInstance); (exact inferInstance); (first | (with_reducible assumption) | (with_reducible exact H32.size _) | kernel_rfl)) | ((with_reducible apply wpl_loadcellN); (exact rfl); (exact inferInstance); (exact rfl)) | ((with_reducible apply wpl_storerow); (exact rfl); (exact rfl); (exact inferInstance); (exact inferInstance); (first | (with_reducible assumption) | (with_reducible exact H32.size _) | kernel_rfl); (first | (with_reducible assumption) | (with_reducible exact H32.size _) | kernel_rfl); (first | (with_reducible exact u8s_one _) | (with_reducible assumption) | kernel_rfl); intro ws _ _) | ((with_reducible apply wpl_storecell); (exact rfl); (exact rfl); (exact inferInstance); (exact rfl); (first | (with_reducible assumption) | omega | (focus (simp; done)) | (focus (simp; omega; done)) | decide); intro ws _ _))
    refine (ksignD_calls (used := 0) HM.out hc (by omega) (by decide) (by decide)).mono ?_
    rw [← HS.out, ← HP.out, HPL.out]
    rintro e w7 ⟨z7, A7, c7, rfl, _, _, _, _, _, _, _, _⟩
    have n7 : Nw w w7 := inferInstance
    go_wp2_with (first | go_skip | ((with_reducible apply (wpl_alloc (dst := some 12))); intro z12 wz12 _ _ _) | ((with_reducible apply (wpl_box_agg (dst := some 12))); (exact rfl); intro z12 wz12 _ _ _) | ((with_reducible apply (wpl_box_int (dst := some 12))); (exact rfl); intro z12 wz12 _ _ _) | ((with_reducible apply (wpl_box_slice (dst := some 12))); (exact rfl); intro z12 wz12 _ _ _) | ((with_reducible apply (wpl_box_str (dst := some 12))); (exact rfl); intro z12 wz12 _ _ _) | ((with_reducible apply (wpl_box_bool (dst := some 12))); (exact rfl); intro z12 wz12 _ _ _) | ((with_reducible apply (wpl_box_ptr (dst := some 12))); (exact rfl); intro z12 wz12 _ _ _) | ((with_reducible apply wpl_alloc); intro z wz _ _ _) | ((with_reducible apply wpl_box_agg); (exact rfl); intro z wz _ _ _) | ((with_reducible apply wpl_box_int); (exact rfl); intro z wz _ _ _) | ((with_reducible apply wpl_box_slice); (exact rfl); intro z wz _ _ _) | ((with_reducible apply wpl_box_str); (exact rfl); intro z wz _ _ _) | ((with_reducible apply wpl_box_bool); (exact rfl); intro z wz _ _ _) | ((with_reducible apply wpl_box_ptr); (exact rfl); intro z wz _ _ _) | ((with_reducible apply (wpl_guard (op := .load _ _))); (exact rfl)) | ((with_reducible apply wpl_loadrow); (exact rfl); (exact inferInstance); (exact inferInstance); (first | (with_reducible assumption) | (with_reducible exact H32.size _) | kernel_rfl)) | ((with_reducible apply wpl_loadcellN); (exact rfl); (exact inferInstance); (exact rfl)) | ((with_reducible apply wpl_storerow); (exact rfl); (exact rfl); (exact inferInstance); (exact inferInstance); (first | (with_reducible assumption) | (with_reducible exact H32.size _) | kernel_rfl); (first | (with_reducible assumption) | (with_reducible exact H32.size _) | kernel_rfl); (first | (with_reducible exact u8s_one _) | (with_reducible assumption) | kernel_rfl); intro ws _ _) | ((with_reducible apply wpl_storecell); (exact rfl); (exact rfl); (exact inferInstance); (exact rfl); (first | (with_reducible assumption) | omega | (focus (simp; done)) | (focus (simp; omega; done)) | decide); intro ws _ _))
    refine (ris_calls _).mono ?_
    rw [show isS 0 36 4 = true from rfl]
    rintro e w8 ⟨rfl, _⟩
    have n8 : Nw w w8 := inferInstance
    go_wp2_with (first | go_skip | ((with_reducible apply wpl_alloc); intro z wz _ _ _) | ((with_reducible apply wpl_box_agg); (exact rfl); intro z wz _ _ _) | ((with_reducible apply wpl_box_int); (exact rfl); intro z wz _ _ _) | ((with_reducible apply wpl_box_slice); (exact rfl); intro z wz _ _ _) | ((with_reducible apply wpl_box_str); (exact rfl); intro z wz _ _ _) | ((with_reducible apply wpl_box_bool); (exact rfl); intro z wz _ _ _) | ((with_reducible apply wpl_box_ptr); (exact rfl); intro z wz _ _ _) | ((with_reducible apply (wpl_guard (op := .load _ _))); (exact rfl)) | ((with_reducible apply wpl_loadrow); (exact rfl); (exact inferInstance); (exact inferInstance); (first | (with_reducible assumption) | (with_reducible exact H32.size _) | kernel_rfl)) | ((with_reducible apply wpl_loadcellN); (exact rfl); (exact inferInstance); (exact rfl)) | ((with_reducible apply wpl_storerow); (exact rfl); (exact rfl); (exact inferInstance); (exact inferInstance); (first | (with_reducible assumption) | (with_reducible exact H32.size _) | kernel_rfl); (first | (with_reducible assumption) | (with_reducible exact H32.size _) | kernel_rfl); (first | (with_reducible exact u8s_one _) | (with_reducible assumption) | kernel_rfl); intro ws _ _) | ((with_reducible apply wpl_storecell); (exact rfl); (exact rfl); (exact inferInstance); (exact rfl); (first | (with_reducible assumption) | omega | (focus (simp; done)) | (focus (simp; omega; done)) | decide); intro ws _ _))
    rw [HBI.out]
    refine wp_region_N ((rowOf (some ⟨z7, 0, none⟩))) (by kernel_rfl) (fun wd _ _ => ?_)
    refine' takeH (i := 0) (v := _) rfl (by kernel_rfl) (by kernel_rfl) (by kernel_rfl) (fun _ _ _ h => h) (yields_of (by rfl) (fun w' _ => ?_)) inferInstance ?_
    rotate_left
    · (go_simp; try with_reducible rfl)
    try simp only [Act.put, List.setIfInBounds_toArray]; try simp only [List.set_cons_succ, List.set_cons_zero]
    refine' takeH (i := 1) (v := _) rfl (by kernel_rfl) (by kernel_rfl) (by kernel_rfl) (fun _ _ _ h => h) (yields_of (by rfl) (fun w' _ => ?_)) inferInstance ?_
    rotate_left
    · (first | ((with_reducible apply (ev_loadKSeed (t := 23))); (exact rfl); (exact inferInstance); (exact inferInstance)) | ((with_reducible apply (ev_loadKUsed (t := 3))); (exact rfl); (exact inferInstance); (exact inferInstance)) | ((with_reducible apply ev_loadrow); (exact rfl); (exact inferInstance); (exact inferInstance); (first | (with_reducible assumption) | (with_reducible exact H32.size _) | kernel_rfl)) | ((with_reducible apply (ev_loadhash (t := 23))); (exact rfl); (exact inferInstance); (exact inferInstance); (first | (with_reducible assumption) | omega)) | ((with_reducible apply ev_loadcellN); (exact rfl); (exact inferInstance); (exact inferInstance); (exact rfl)) | ((with_reducible apply (ev_loadint (t := 3))); (exact rfl); (exact inferInstance); (exact inferInstance); (first | (with_reducible assumption) | omega)) | ((with_reducible apply (ev_loadbyte (t := 5))); (exact rfl); (exact inferInstance); (exact inferInstance); (first | (with_reducible assumption) | omega)) | (go_simp; try with_reducible rfl))
    try simp only [Act.put, List.setIfInBounds_toArray]; try simp only [List.set_cons_succ, List.set_cons_zero]
    refine' takeH (i := 2) (v := _) rfl (by kernel_rfl) (by kernel_rfl) (by kernel_rfl) (fun _ _ _ h => h) (yields_of (by rfl) (fun w' _ => ?_)) inferInstance ?_
    rotate_left
    · (go_simp; try with_reducible rfl)
    try simp only [Act.put, List.setIfInBounds_toArray]; try simp only [List.set_cons_succ, List.set_cons_zero]
    refine' takeH (i := 3) (v := _) rfl (by kernel_rfl) (by kernel_rfl) (by kernel_rfl) (fun _ _ _ h => h) (yields_of (by rfl) (fun w' _ => ?_)) inferInstance ?_
    rotate_left
    · (go_simp; try with_reducible rfl)
    try simp only [Act.put, List.setIfInBounds_toArray]; try simp only [List.set_cons_succ, List.set_cons_zero]
    refine' takeH (i := 4) (v := _) rfl (by kernel_rfl) (by kernel_rfl) (by kernel_rfl) (fun _ _ _ h => h) (yields_of (by rfl) (fun w' _ => ?_)) inferInstance ?_
    rotate_left
    · (go_simp; try with_reducible rfl)
    try simp only [Act.put, List.setIfInBounds_toArray]; try simp only [List.set_cons_succ, List.set_cons_zero]
    refine' takeH (i := 5) (v := _) rfl (by kernel_rfl) (by kernel_rfl) (by kernel_rfl) (fun _ _ _ h => h) (yields_of (by rfl) (fun w' _ => ?_)) inferInstance ?_
    rotate_left
    · (first | ((with_reducible apply ev_indexSN); (exact rfl); (exact rfl); (exact inferInstance); (first | (with_reducible assumption) | omega)) | ((with_reducible apply ev_indexS); (exact rfl); (exact rfl); (exact inferInstance); (first | (with_reducible assumption) | omega); (first | (with_reducible assumption) | omega)) | ((with_reducible apply ev_indexArr); (exact rfl); (exact rfl); (exact Try.underlying23); (kernel_rfl); (first | (with_reducible assumption) | omega); (first | (with_reducible assumption) | omega)) | ((with_reducible apply ev_indexH'); (exact rfl); (exact rfl); (exact inferInstance); (exact inferInstance); (first | (with_reducible assumption) | omega); (first | (with_reducible assumption) | omega); (first | (with_reducible assumption) | omega)) | ((with_reducible apply ev_indexH); (exact rfl); (exact rfl); (exact inferInstance); (exact inferInstance); (first | (with_reducible assumption) | omega); (first | (with_reducible assumption) | omega)) | (go_simp; try with_reducible rfl))
    try simp only [Act.put, List.setIfInBounds_toArray]; try simp only [List.set_cons_succ, List.set_cons_zero]
    refine' takeH (i := 6) (v := _) rfl (by kernel_rfl) (by kernel_rfl) (by kernel_rfl) (fun _ _ _ h => h) (yields_of (by rfl) (fun w' _ => ?_)) inferInstance ?_
    rotate_left
    · (first | ((with_reducible apply ev_indexSN); (exact rfl); (exact rfl); (exact inferInstance); (first | (with_reducible assumption) | omega)) | ((with_reducible apply ev_indexS); (exact rfl); (exact rfl); (exact inferInstance); (first | (with_reducible assumption) | omega); (first | (with_reducible assumption) | omega)) | ((with_reducible apply ev_indexArr); (exact rfl); (exact rfl); (exact Try.underlying23); (kernel_rfl); (first | (with_reducible assumption) | omega); (first | (with_reducible assumption) | omega)) | ((with_reducible apply ev_indexH'); (exact rfl); (exact rfl); (exact inferInstance); (exact inferInstance); (first | (with_reducible assumption) | omega); (first | (with_reducible assumption) | omega); (first | (with_reducible assumption) | omega)) | ((with_reducible apply ev_indexH); (exact rfl); (exact rfl); (exact inferInstance); (exact inferInstance); (first | (with_reducible assumption) | omega); (first | (with_reducible assumption) | omega)) | (go_simp; try with_reducible rfl))
    try simp only [Act.put, List.setIfInBounds_toArray]; try simp only [List.set_cons_succ, List.set_cons_zero]
    refine' takeH (i := 8) (v := _) rfl (by kernel_rfl) (by kernel_rfl) (by kernel_rfl) (fun _ _ _ h => h) (yields_of (by rfl) (fun w' _ => ?_)) inferInstance ?_
    rotate_left
    · (go_simp; try with_reducible rfl)
    try simp only [Act.put, List.setIfInBounds_toArray]; try simp only [List.set_cons_succ, List.set_cons_zero]
    refine' takeH (i := 10) (v := _) rfl (by kernel_rfl) (by kernel_rfl) (by kernel_rfl) (fun _ _ _ h => h) (yields_of (by rfl) (fun w' _ => ?_)) inferInstance ?_
    rotate_left
    · (first | ((with_reducible apply ev_indexSN); (exact rfl); (exact rfl); (exact inferInstance); (first | (with_reducible assumption) | omega)) | ((with_reducible apply ev_indexS); (exact rfl); (exact rfl); (exact inferInstance); (first | (with_reducible assumption) | omega); (first | (with_reducible assumption) | omega)) | ((with_reducible apply ev_indexArr); (exact rfl); (exact rfl); (exact Try.underlying23); (kernel_rfl); (first | (with_reducible assumption) | omega); (first | (with_reducible assumption) | omega)) | ((with_reducible apply ev_indexH'); (exact rfl); (exact rfl); (exact inferInstance); (exact inferInstance); (first | (with_reducible assumption) | omega); (first | (with_reducible assumption) | omega); (first | (with_reducible assumption) | omega)) | ((with_reducible apply ev_indexH); (exact rfl); (exact rfl); (exact inferInstance); (exact inferInstance); (first | (with_reducible assumption) | omega); (first | (with_reducible assumption) | omega)) | (go_simp; try with_reducible rfl))
    try simp only [Act.put, List.setIfInBounds_toArray]; try simp only [List.set_cons_succ, List.set_cons_zero]
    refine goH (i := 7) (by kernel_rfl) rfl (fun K_ hK_ => ?_)
    rw [if_pos (by kernel_rfl)]
    refine wpr_of_list ?_
    (first | ((with_reducible apply wpl_loadrow); (exact rfl); (exact inferInstance); (exact inferInstance); (first | (with_reducible assumption) | (with_reducible exact H32.size _) | kernel_rfl)) | ((with_reducible apply wpl_loadcellN); (exact rfl); (exact inferInstance); (exact rfl)) | ((with_reducible apply (wpl_loadhash (t := 23))); (exact rfl); (exact inferInstance); (exact inferInstance); (first | (with_reducible assumption) | omega)) | ((with_reducible apply (wpl_loadbyteH (t := 5))); (exact rfl); (exact inferInstance); (first | (with_reducible assumption) | omega); (first | (with_reducible assumption) | omega)) | ((with_reducible apply (wpl_loadint (t := 3))); (exact rfl); (exact inferInstance); (exact inferInstance); (first | (with_reducible assumption) | omega)) | ((with_reducible apply (wpl_loadbyte (t := 5))); (exact rfl); (exact inferInstance); (exact inferInstance); (first | (with_reducible assumption) | omega)))
    refine wpList_nil ?_
    unfold onlyN
    refine hK_.out _ _ inferInstance (fun _ => ?_)
    clear hK_ K_
    try simp only [Act.put, List.setIfInBounds_toArray]; try simp only [List.set_cons_succ, List.set_cons_zero]
    refine' takeH (i := 9) (v := _) rfl (by kernel_rfl) (by kernel_rfl) (by kernel_rfl) (fun _ _ _ h => h) (yields_of (by rfl) (fun w' _ => ?_)) inferInstance ?_
    rotate_left
    · (go_simp; try with_reducible rfl)
    try simp only [Act.put, List.setIfInBounds_toArray]; try simp only [List.set_cons_succ, List.set_cons_zero]
    refine' takeH (i := 11) (v := _) rfl (by kernel_rfl) (by kernel_rfl) (by kernel_rfl) (fun _ _ _ h => h) (yields_of (by rfl) (fun w' _ => ?_)) inferInstance ?_
    rotate_left
    · (first | ((with_reducible apply ev_indexSN); (exact rfl); (exact rfl); (exact inferInstance); (first | (with_reducible assumption) | omega)) | ((with_reducible apply ev_indexS); (exact rfl); (exact rfl); (exact inferInstance); (first | (with_reducible assumption) | omega); (first | (with_reducible assumption) | omega)) | ((with_reducible apply ev_indexArr); (exact rfl); (exact rfl); (exact Try.underlying23); (kernel_rfl); (first | (with_reducible assumption) | omega); (first | (with_reducible assumption) | omega)) | ((with_reducible apply ev_indexH'); (exact rfl); (exact rfl); (exact inferInstance); (exact inferInstance); (first | (with_reducible assumption) | omega); (first | (with_reducible assumption) | omega); (first | (with_reducible assumption) | omega)) | ((with_reducible apply ev_indexH); (exact rfl); (exact rfl); (exact inferInstance); (exact inferInstance); (first | (with_reducible assumption) | omega); (first | (with_reducible assumption) | omega)) | (go_simp; try with_reducible rfl))
    try simp only [Act.put, List.setIfInBounds_toArray]; try simp only [List.set_cons_succ, List.set_cons_zero]
    refine goH (i := 12) (by kernel_rfl) rfl (fun K_ hK_ => ?_)
    rw [if_pos (by kernel_rfl)]
    refine wpr_of_list ?_
    (first | ((with_reducible apply wpl_storerow); (exact rfl); (exact rfl); (exact inferInstance); (exact inferInstance); (first | (with_reducible assumption) | (with_reducible exact H32.size _) | kernel_rfl); (first | (with_reducible assumption) | (with_reducible exact H32.size _) | kernel_rfl); (first | (with_reducible exact u8s_one _) | (with_reducible assumption) | kernel_rfl); intro ws _ _) | ((with_reducible apply wpl_storecell); (exact rfl); (exact rfl); (exact inferInstance); (exact rfl); (first | (with_reducible assumption) | omega | (focus (simp; done)) | (focus (simp; omega; done)) | decide); intro ws _ _) | ((with_reducible apply (wpl_storehash (t := 23))); (exact rfl); (exact rfl); (exact inferInstance); (exact inferInstance); (first | (with_reducible assumption) | omega | (focus (simp; done)) | (focus (simp; omega; done)) | decide); intro ws _ _) | ((with_reducible apply (wpl_storebyteH (t := 5))); (exact rfl); (exact rfl); (exact inferInstance); (first | (with_reducible assumption) | omega); (first | (with_reducible assumption) | omega); (first | (constructor <;> omega) | exact xor_u8_in _ _); intro ws _ _) | ((with_reducible apply (wpl_storeint (t := 3))); (exact rfl); (exact rfl); (exact inferInstance); (first | (with_reducible assumption) | omega); intro ws _ _) | ((with_reducible apply (wpl_storebyte (t := 5))); (exact rfl); (exact rfl); (exact inferInstance); (first | (with_reducible assumption) | omega | (focus (simp; done)) | (focus (simp; omega; done)) | decide); (constructor <;> omega); intro ws _ _))
    refine wpList_nil ?_
    unfold onlyN
    refine hK_.out _ _ inferInstance (fun _ => ?_)
    clear hK_ K_
    try simp only [Act.put]
    refine wpAnyH_done (by kernel_rfl) ?_ _
    obtain ⟨S2, hS2, hO2⟩ : ∃ S2 : List H32, S2.length = 36 ∧ HO ws 23 32 (some ⟨z7, 0, none⟩) 36 36 (cellsOf S2) := ⟨_, by rw [List.length_set, hSl], inferInstance⟩
    have n9 : Nw w ws := inferInstance
    go_wp2_with (first | go_skip | ((with_reducible apply wpl_alloc); intro z wz _ _ _) | ((with_reducible apply wpl_box_agg); (exact rfl); intro z wz _ _ _) | ((with_reducible apply wpl_box_int); (exact rfl); intro z wz _ _ _) | ((with_reducible apply wpl_box_slice); (exact rfl); intro z wz _ _ _) | ((with_reducible apply wpl_box_str); (exact rfl); intro z wz _ _ _) | ((with_reducible apply wpl_box_bool); (exact rfl); intro z wz _ _ _) | ((with_reducible apply wpl_box_ptr); (exact rfl); intro z wz _ _ _) | ((with_reducible apply (wpl_guard (op := .load _ _))); (exact rfl)) | ((with_reducible apply wpl_loadrow); (exact rfl); (exact inferInstance); (exact inferInstance); (first | (with_reducible assumption) | (with_reducible exact H32.size _) | kernel_rfl)) | ((with_reducible apply wpl_loadcellN); (exact rfl); (exact inferInstance); (exact rfl)) | ((with_reducible apply wpl_storerow); (exact rfl); (exact rfl); (exact inferInstance); (exact inferInstance); (first | (with_reducible assumption) | (with_reducible exact H32.size _) | kernel_rfl); (first | (with_reducible assumption) | (with_reducible exact H32.size _) | kernel_rfl); (first | (with_reducible exact u8s_one _) | (with_reducible assumption) | kernel_rfl); intro ws _ _) | ((with_reducible apply wpl_storecell); (exact rfl); (exact rfl); (exact inferInstance); (exact rfl); (first | (with_reducible assumption) | omega | (focus (simp; done)) | (focus (simp; omega; done)) | decide); intro ws _ _))
    obtain ⟨V, hV⟩ : ∃ V, V = verifyS N m 0 S2 Pa := ⟨_, rfl⟩
    have HV := Lib.hid hV
    clear hV
    cases V with
    | false =>
      refine wp_region_N ((only z1)) (by kernel_rfl) (fun wd _ _ => ?_)
      refine' takeH (i := 0) (v := _) rfl (by kernel_rfl) (by kernel_rfl) (by kernel_rfl) (fun _ _ _ h => h) (yields_of (by rfl) (fun w' _ => ?_)) inferInstance ?_
      rotate_left
      · (go_simp; try with_reducible rfl)
      try simp only [Act.put, List.setIfInBounds_toArray]; try simp only [List.set_cons_succ, List.set_cons_zero]
      refine' takeH (i := 2) (v := _) rfl (by kernel_rfl) (by kernel_rfl) (by kernel_rfl) (fun _ _ _ h => h) (yields_of (by rfl) (fun w' _ => ?_)) inferInstance ?_
      rotate_left
      · (go_simp; try with_reducible rfl)
      try simp only [Act.put, List.setIfInBounds_toArray]; try simp only [List.set_cons_succ, List.set_cons_zero]
      refine' takeH (i := 3) (v := _) rfl (by kernel_rfl) (by kernel_rfl) (by kernel_rfl) (fun _ _ _ h => h) (yields_of (by rfl) (fun w' _ => ?_)) inferInstance ?_
      rotate_left
      · (first | ((with_reducible apply (ev_loadKSeed (t := 23))); (exact rfl); (exact inferInstance); (exact inferInstance)) | ((with_reducible apply (ev_loadKUsed (t := 3))); (exact rfl); (exact inferInstance); (exact inferInstance)) | ((with_reducible apply ev_loadrow); (exact rfl); (exact inferInstance); (exact inferInstance); (first | (with_reducible assumption) | (with_reducible exact H32.size _) | kernel_rfl)) | ((with_reducible apply (ev_loadhash (t := 23))); (exact rfl); (exact inferInstance); (exact inferInstance); (first | (with_reducible assumption) | omega)) | ((with_reducible apply ev_loadcellN); (exact rfl); (exact inferInstance); (exact inferInstance); (exact rfl)) | ((with_reducible apply (ev_loadint (t := 3))); (exact rfl); (exact inferInstance); (exact inferInstance); (first | (with_reducible assumption) | omega)) | ((with_reducible apply (ev_loadbyte (t := 5))); (exact rfl); (exact inferInstance); (exact inferInstance); (first | (with_reducible assumption) | omega)) | (go_simp; try with_reducible rfl))
      try simp only [Act.put, List.setIfInBounds_toArray]; try simp only [List.set_cons_succ, List.set_cons_zero]
      refine goH (i := 1) (by kernel_rfl) rfl (fun K_ hK_ => ?_)
      go_simp
      refine (kpublic_calls (zk := z1)).mono ?_
      rw [← HN.out]
      rintro e w11 ⟨rfl, _, _⟩
      refine hK_.out _ _ inferInstance (fun _ => ?_)
      clear hK_ K_
      try simp only [Act.put, List.setIfInBounds_toArray]; try simp only [List.set_cons_succ, List.set_cons_zero]
      refine goH (i := 4) (by kernel_rfl) rfl (fun K_ hK_ => ?_)
      go_simp
      refine (verify_calls N 0 HM.out hc (by omega) hS2 HPL.out).mono ?_
      rw [← HV.out]
      rintro e w12 ⟨rfl, _⟩
      refine hK_.out _ _ inferInstance (fun _ => ?_)
      clear hK_ K_
      try simp only [Act.put, List.setIfInBounds_toArray]; try simp only [List.set_cons_succ, List.set_cons_zero]
      refine' takeH (i := 5) (v := _) rfl (by kernel_rfl) (by kernel_rfl) (by kernel_rfl) (fun _ _ _ h => h) (yields_of (by rfl) (fun w' _ => ?_)) inferInstance ?_
      rotate_left
      · (go_simp; try with_reducible rfl)
      try simp only [Act.put, List.setIfInBounds_toArray]; try simp only [List.set_cons_succ, List.set_cons_zero]
      refine' takeH (i := 6) (v := _) rfl (by kernel_rfl) (by kernel_rfl) (by kernel_rfl) (fun _ _ _ h => h) (yields_of (by rfl) (fun w' _ => ?_)) inferInstance ?_
      rotate_left
      · (go_simp; try with_reducible rfl)
      try simp only [Act.put, List.setIfInBounds_toArray]; try simp only [List.set_cons_succ, List.set_cons_zero]
      refine takeH (i := 7) (v := undef) rfl (by kernel_rfl) (by kernel_rfl) (by kernel_rfl) (fun _ _ _ h => h) (Or.inr ⟨by rfl, rfl⟩) inferInstance ?_
      try simp only [Act.put, List.setIfInBounds_toArray]; try simp only [List.set_cons_succ, List.set_cons_zero]
      refine takeH (i := 8) (v := undef) rfl (by kernel_rfl) (by kernel_rfl) (by kernel_rfl) (fun _ _ _ h => h) (Or.inr ⟨by rfl, rfl⟩) inferInstance ?_
      try simp only [Act.put, List.setIfInBounds_toArray]; try simp only [List.set_cons_succ, List.set_cons_zero]
      refine takeH (i := 9) (v := undef) rfl (by kernel_rfl) (by kernel_rfl) (by kernel_rfl) (fun _ _ _ h => h) (Or.inr ⟨by rfl, rfl⟩) inferInstance ?_
      try simp only [Act.put, List.setIfInBounds_toArray]; try simp only [List.set_cons_succ, List.set_cons_zero]
      refine takeH (i := 10) (v := undef) rfl (by kernel_rfl) (by kernel_rfl) (by kernel_rfl) (fun _ _ _ h => h) (Or.inr ⟨by rfl, rfl⟩) inferInstance ?_
      try simp only [Act.put, List.setIfInBounds_toArray]; try simp only [List.set_cons_succ, List.set_cons_zero]
      refine takeH (i := 11) (v := undef) rfl (by kernel_rfl) (by kernel_rfl) (by kernel_rfl) (fun _ _ _ h => h) (Or.inr ⟨by rfl, rfl⟩) inferInstance ?_
      try simp only [Act.put, List.setIfInBounds_toArray]; try simp only [List.set_cons_succ, List.set_cons_zero]
      refine' takeH (i := 12) (v := _) rfl (by kernel_rfl) (by kernel_rfl) (by kernel_rfl) (fun _ _ _ h => h) (yields_of (by rfl) (fun w' _ => ?_)) inferInstance ?_
      rotate_left
      · (go_simp; try with_reducible rfl)
      try simp only [Act.put, List.setIfInBounds_toArray]; try simp only [List.set_cons_succ, List.set_cons_zero]
      refine' takeH (i := 13) (v := _) rfl (by kernel_rfl) (by kernel_rfl) (by kernel_rfl) (fun _ _ _ h => h) (yields_of (by rfl) (fun w' _ => ?_)) inferInstance ?_
      rotate_left
      · (go_simp; try with_reducible rfl)
      try simp only [Act.put, List.setIfInBounds_toArray]; try simp only [List.set_cons_succ, List.set_cons_zero]
      refine goH (i := 14) (by kernel_rfl) rfl (fun K_ hK_ => ?_)
      go_simp
      refine (kyKnown_calls _).mono ?_
      rintro e w13 ⟨rfl, _⟩
      refine hK_.out _ _ inferInstance (fun _ => ?_)
      clear hK_ K_
      try simp only [Act.put, List.setIfInBounds_toArray]; try simp only [List.set_cons_succ, List.set_cons_zero]
      refine' takeH (i := 15) (v := _) rfl (by kernel_rfl) (by kernel_rfl) (by kernel_rfl) (fun _ _ _ h => h) (yields_of (by rfl) (fun w' _ => ?_)) inferInstance ?_
      rotate_left
      · (go_simp; try with_reducible rfl)
      try simp only [Act.put, List.setIfInBounds_toArray]; try simp only [List.set_cons_succ, List.set_cons_zero]
      refine' takeH (i := 16) (v := _) rfl (by kernel_rfl) (by kernel_rfl) (by kernel_rfl) (fun _ _ _ h => h) (yields_of (by rfl) (fun w' _ => ?_)) inferInstance ?_
      rotate_left
      · (go_simp; try with_reducible rfl)
      try simp only [Act.put, List.setIfInBounds_toArray]; try simp only [List.set_cons_succ, List.set_cons_zero]
      refine wpAnyH_done (by kernel_rfl) ?_ _
      go_wp2_with (first | go_skip | ((with_reducible apply wpl_alloc); intro z wz _ _ _) | ((with_reducible apply wpl_box_agg); (exact rfl); intro z wz _ _ _) | ((with_reducible apply wpl_box_int); (exact rfl); intro z wz _ _ _) | ((with_reducible apply wpl_box_slice); (exact rfl); intro z wz _ _ _) | ((with_reducible apply wpl_box_str); (exact rfl); intro z wz _ _ _) | ((with_reducible apply wpl_box_bool); (exact rfl); intro z wz _ _ _) | ((with_reducible apply wpl_box_ptr); (exact rfl); intro z wz _ _ _) | ((with_reducible apply (wpl_guard (op := .load _ _))); (exact rfl)) | ((with_reducible apply wpl_loadrow); (exact rfl); (exact inferInstance); (exact inferInstance); (first | (with_reducible assumption) | (with_reducible exact H32.size _) | kernel_rfl)) | ((with_reducible apply wpl_loadcellN); (exact rfl); (exact inferInstance); (exact rfl)) | ((with_reducible apply wpl_storerow); (exact rfl); (exact rfl); (exact inferInstance); (exact inferInstance); (first | (with_reducible assumption) | (with_reducible exact H32.size _) | kernel_rfl); (first | (with_reducible assumption) | (with_reducible exact H32.size _) | kernel_rfl); (first | (with_reducible exact u8s_one _) | (with_reducible assumption) | kernel_rfl); intro ws _ _) | ((with_reducible apply wpl_storecell); (exact rfl); (exact rfl); (exact inferInstance); (exact rfl); (first | (with_reducible assumption) | omega | (focus (simp; done)) | (focus (simp; omega; done)) | decide); intro ws _ _))
      go_ret
      exact ⟨rfl, (stepN (w0 := w)).chg⟩
    | true =>
      refine wp_region_N ((only z1)) (by kernel_rfl) (fun wd _ _ => ?_)
      refine' takeH (i := 0) (v := _) rfl (by kernel_rfl) (by kernel_rfl) (by kernel_rfl) (fun _ _ _ h => h) (yields_of (by rfl) (fun w' _ => ?_)) inferInstance ?_
      rotate_left
      · (go_simp; try with_reducible rfl)
      try simp only [Act.put, List.setIfInBounds_toArray]; try simp only [List.set_cons_succ, List.set_cons_zero]
      refine' takeH (i := 2) (v := _) rfl (by kernel_rfl) (by kernel_rfl) (by kernel_rfl) (fun _ _ _ h => h) (yields_of (by rfl) (fun w' _ => ?_)) inferInstance ?_
      rotate_left
      · (go_simp; try with_reducible rfl)
      try simp only [Act.put, List.setIfInBounds_toArray]; try simp only [List.set_cons_succ, List.set_cons_zero]
      refine' takeH (i := 3) (v := _) rfl (by kernel_rfl) (by kernel_rfl) (by kernel_rfl) (fun _ _ _ h => h) (yields_of (by rfl) (fun w' _ => ?_)) inferInstance ?_
      rotate_left
      · (first | ((with_reducible apply (ev_loadKSeed (t := 23))); (exact rfl); (exact inferInstance); (exact inferInstance)) | ((with_reducible apply (ev_loadKUsed (t := 3))); (exact rfl); (exact inferInstance); (exact inferInstance)) | ((with_reducible apply ev_loadrow); (exact rfl); (exact inferInstance); (exact inferInstance); (first | (with_reducible assumption) | (with_reducible exact H32.size _) | kernel_rfl)) | ((with_reducible apply (ev_loadhash (t := 23))); (exact rfl); (exact inferInstance); (exact inferInstance); (first | (with_reducible assumption) | omega)) | ((with_reducible apply ev_loadcellN); (exact rfl); (exact inferInstance); (exact inferInstance); (exact rfl)) | ((with_reducible apply (ev_loadint (t := 3))); (exact rfl); (exact inferInstance); (exact inferInstance); (first | (with_reducible assumption) | omega)) | ((with_reducible apply (ev_loadbyte (t := 5))); (exact rfl); (exact inferInstance); (exact inferInstance); (first | (with_reducible assumption) | omega)) | (go_simp; try with_reducible rfl))
      try simp only [Act.put, List.setIfInBounds_toArray]; try simp only [List.set_cons_succ, List.set_cons_zero]
      refine goH (i := 1) (by kernel_rfl) rfl (fun K_ hK_ => ?_)
      go_simp
      refine (kpublic_calls (zk := z1)).mono ?_
      rw [← HN.out]
      rintro e w11 ⟨rfl, _, _⟩
      refine hK_.out _ _ inferInstance (fun _ => ?_)
      clear hK_ K_
      try simp only [Act.put, List.setIfInBounds_toArray]; try simp only [List.set_cons_succ, List.set_cons_zero]
      refine goH (i := 4) (by kernel_rfl) rfl (fun K_ hK_ => ?_)
      go_simp
      refine (verify_calls N 0 HM.out hc (by omega) hS2 HPL.out).mono ?_
      rw [← HV.out]
      rintro e w12 ⟨rfl, _⟩
      refine hK_.out _ _ inferInstance (fun _ => ?_)
      clear hK_ K_
      try simp only [Act.put, List.setIfInBounds_toArray]; try simp only [List.set_cons_succ, List.set_cons_zero]
      refine' takeH (i := 5) (v := _) rfl (by kernel_rfl) (by kernel_rfl) (by kernel_rfl) (fun _ _ _ h => h) (yields_of (by rfl) (fun w' _ => ?_)) inferInstance ?_
      rotate_left
      · (go_simp; try with_reducible rfl)
      try simp only [Act.put, List.setIfInBounds_toArray]; try simp only [List.set_cons_succ, List.set_cons_zero]
      refine' takeH (i := 6) (v := _) rfl (by kernel_rfl) (by kernel_rfl) (by kernel_rfl) (fun _ _ _ h => h) (yields_of (by rfl) (fun w' _ => ?_)) inferInstance ?_
      rotate_left
      · (go_simp; try with_reducible rfl)
      try simp only [Act.put, List.setIfInBounds_toArray]; try simp only [List.set_cons_succ, List.set_cons_zero]
      refine' takeH (i := 7) (v := _) rfl (by kernel_rfl) (by kernel_rfl) (by kernel_rfl) (fun _ _ _ h => h) (yields_of (by rfl) (fun w' _ => ?_)) inferInstance ?_
      rotate_left
      · (go_simp; try with_reducible rfl)
      try simp only [Act.put, List.setIfInBounds_toArray]; try simp only [List.set_cons_succ, List.set_cons_zero]
      refine' takeH (i := 9) (v := _) rfl (by kernel_rfl) (by kernel_rfl) (by kernel_rfl) (fun _ _ _ h => h) (yields_of (by rfl) (fun w' _ => ?_)) inferInstance ?_
      rotate_left
      · (go_simp; try with_reducible rfl)
      try simp only [Act.put, List.setIfInBounds_toArray]; try simp only [List.set_cons_succ, List.set_cons_zero]
      refine' takeH (i := 10) (v := _) rfl (by kernel_rfl) (by kernel_rfl) (by kernel_rfl) (fun _ _ _ h => h) (yields_of (by rfl) (fun w' _ => ?_)) inferInstance ?_
      rotate_left
      · (first | ((with_reducible apply (ev_loadKSeed (t := 23))); (exact rfl); (exact inferInstance); (exact inferInstance)) | ((with_reducible apply (ev_loadKUsed (t := 3))); (exact rfl); (exact inferInstance); (exact inferInstance)) | ((with_reducible apply ev_loadrow); (exact rfl); (exact inferInstance); (exact inferInstance); (first | (with_reducible assumption) | (with_reducible exact H32.size _) | kernel_rfl)) | ((with_reducible apply (ev_loadhash (t := 23))); (exact rfl); (exact inferInstance); (exact inferInstance); (first | (with_reducible assumption) | omega)) | ((with_reducible apply ev_loadcellN); (exact rfl); (exact inferInstance); (exact inferInstance); (exact rfl)) | ((with_reducible apply (ev_loadint (t := 3))); (exact rfl); (exact inferInstance); (exact inferInstance); (first | (with_reducible assumption) | omega)) | ((with_reducible apply (ev_loadbyte (t := 5))); (exact rfl); (exact inferInstance); (exact inferInstance); (first | (with_reducible assumption) | omega)) | (go_simp; try with_reducible rfl))
      try simp only [Act.put, List.setIfInBounds_toArray]; try simp only [List.set_cons_succ, List.set_cons_zero]
      refine goH (i := 8) (by kernel_rfl) rfl (fun K_ hK_ => ?_)
      go_simp
      refine (kpublic_calls (zk := z1)).mono ?_
      rw [← HN.out]
      rintro e w14 ⟨rfl, _, _⟩
      refine hK_.out _ _ inferInstance (fun _ => ?_)
      clear hK_ K_
      try simp only [Act.put, List.setIfInBounds_toArray]; try simp only [List.set_cons_succ, List.set_cons_zero]
      refine goH (i := 11) (by kernel_rfl) rfl (fun K_ hK_ => ?_)
      go_simp
      refine (rverify_calls N 0 HM.out (by omega) hS2 HPL.out).mono ?_
      rw [← HV.out]
      rintro e w15 ⟨rfl, _⟩
      refine hK_.out _ _ inferInstance (fun _ => ?_)
      clear hK_ K_
      try simp only [Act.put, List.setIfInBounds_toArray]; try simp only [List.set_cons_succ, List.set_cons_zero]
      refine' takeH (i := 12) (v := _) rfl (by kernel_rfl) (by kernel_rfl) (by kernel_rfl) (fun _ _ _ h => h) (yields_of (by rfl) (fun w' _ => ?_)) inferInstance ?_
      rotate_left
      · (go_simp; try with_reducible rfl)
      try simp only [Act.put, List.setIfInBounds_toArray]; try simp only [List.set_cons_succ, List.set_cons_zero]
      refine' takeH (i := 13) (v := _) rfl (by kernel_rfl) (by kernel_rfl) (by kernel_rfl) (fun _ _ _ h => h) (yields_of (by rfl) (fun w' _ => ?_)) inferInstance ?_
      rotate_left
      · (go_simp; try with_reducible rfl)
      try simp only [Act.put, List.setIfInBounds_toArray]; try simp only [List.set_cons_succ, List.set_cons_zero]
      refine goH (i := 14) (by kernel_rfl) rfl (fun K_ hK_ => ?_)
      go_simp
      refine (kyKnown_calls _).mono ?_
      rintro e w13 ⟨rfl, _⟩
      refine hK_.out _ _ inferInstance (fun _ => ?_)
      clear hK_ K_
      try simp only [Act.put, List.setIfInBounds_toArray]; try simp only [List.set_cons_succ, List.set_cons_zero]
      refine' takeH (i := 15) (v := _) rfl (by kernel_rfl) (by kernel_rfl) (by kernel_rfl) (fun _ _ _ h => h) (yields_of (by rfl) (fun w' _ => ?_)) inferInstance ?_
      rotate_left
      · (go_simp; try with_reducible rfl)
      try simp only [Act.put, List.setIfInBounds_toArray]; try simp only [List.set_cons_succ, List.set_cons_zero]
      refine' takeH (i := 16) (v := _) rfl (by kernel_rfl) (by kernel_rfl) (by kernel_rfl) (fun _ _ _ h => h) (yields_of (by rfl) (fun w' _ => ?_)) inferInstance ?_
      rotate_left
      · (go_simp; try with_reducible rfl)
      try simp only [Act.put, List.setIfInBounds_toArray]; try simp only [List.set_cons_succ, List.set_cons_zero]
      refine wpAnyH_done (by kernel_rfl) ?_ _
      go_wp2_with (first | go_skip | ((with_reducible apply wpl_alloc); intro z wz _ _ _) | ((with_reducible apply wpl_box_agg); (exact rfl); intro z wz _ _ _) | ((with_reducible apply wpl_box_int); (exact rfl); intro z wz _ _ _) | ((with_reducible apply wpl_box_slice); (exact rfl); intro z wz _ _ _) | ((with_reducible apply wpl_box_str); (exact rfl); intro z wz _ _ _) | ((with_reducible apply wpl_box_bool); (exact rfl); intro z wz _ _ _) | ((with_reducible apply wpl_box_ptr); (exact rfl); intro z wz _ _ _) | ((with_reducible apply (wpl_guard (op := .load _ _))); (exact rfl)) | ((with_reducible apply wpl_loadrow); (exact rfl); (exact inferInstance); (exact inferInstance); (first | (with_reducible assumption) | (with_reducible exact H32.size _) | kernel_rfl)) | ((with_reducible apply wpl_loadcellN); (exact rfl); (exact inferInstance); (exact rfl)) | ((with_reducible apply wpl_storerow); (exact rfl); (exact rfl); (exact inferInstance); (exact inferInstance); (first | (with_reducible assumption) | (with_reducible exact H32.size _) | kernel_rfl); (first | (with_reducible assumption) | (with_reducible exact H32.size _) | kernel_rfl); (first | (with_reducible exact u8s_one _) | (with_reducible assumption) | kernel_rfl); intro ws _ _) | ((with_reducible apply wpl_storecell); (exact rfl); (exact rfl); (exact inferInstance); (exact rfl); (first | (with_reducible assumption) | omega | (focus (simp; done)) | (focus (simp; omega; done)) | decide); intro ws _ _))
      go_ret
      exact ⟨rfl, (stepN (w0 := w)).chg⟩
  · have hlt : ¬ (bits .and .i64 at_ 65535).tmod 40 < 36 := by omega
    obtain ⟨j2, hj2⟩ : ∃ j2 : Nat, j = 36 + j2 := ⟨j - 36, by omega⟩
    have hj4 : j2 < 4 := by omega
    have hw1 : IntKind.i64.wrap ((j : Int) - 36) = (j2 : Int) := by rw [IntKind.wrap_i64]; omega
    have hw2 : wrap64 ((j : Int) - 36) = (j2 : Int) := by rw [← wrap_eq64]; exact hw1
    clear hbits hj2
    go_enter Try.func7, Try.ntmps7
    go_wp2_with (first | go_skip | ((with_reducible apply (wpl_alloc (dst := some 5))); intro zs wzs _ _ _) | ((with_reducible apply (wpl_box_agg (dst := some 5))); (exact rfl); intro zs wzs _ _ _) | ((with_reducible apply (wpl_box_int (dst := some 5))); (exact rfl); intro zs wzs _ _ _) | ((with_reducible apply (wpl_box_slice (dst := some 5))); (exact rfl); intro zs wzs _ _ _) | ((with_reducible apply (wpl_box_str (dst := some 5))); (exact rfl); intro zs wzs _ _ _) | ((with_reducible apply (wpl_box_bool (dst := some 5))); (exact rfl); intro zs wzs _ _ _) | ((with_reducible apply (wpl_box_ptr (dst := some 5))); (exact rfl); intro zs wzs _ _ _) | ((with_reducible apply wpl_alloc); intro z wz _ _ _) | ((with_reducible apply wpl_box_agg); (exact rfl); intro z wz _ _ _) | ((with_reducible apply wpl_box_int); (exact rfl); intro z wz _ _ _) | ((with_reducible apply wpl_box_slice); (exact rfl); intro z wz _ _ _) | ((with_reducible apply wpl_box_str); (exact rfl); intro z wz _ _ _) | ((with_reducible apply wpl_box_bool); (exact rfl); intro z wz _ _ _) | ((with_reducible apply wpl_box_ptr); (exact rfl); intro z wz _ _ _) | ((with_reducible apply (wpl_guard (op := .load _ _))); (exact rfl)) | ((with_reducible apply wpl_loadrow); (exact rfl); (exact inferInstance); (exact inferInstance); (first | (with_reducible assumption) | (with_reducible exact H32.size _) | kernel_rfl)) | ((with_reducible apply wpl_loadcellN); (exact rfl); (exact inferInstance); (exact rfl)) | ((with_reducible apply wpl_storerow); (exact rfl); (exact rfl); (exact inferInstance); (exact inferInstance); (first | (with_reducible assumption) | (with_reducible exact H32.size _) | kernel_rfl); (first | (with_reducible assumption) | (with_reducible exact H32.size _) | kernel_rfl); (first | (with_reducible exact u8s_one _) | (with_reducible assumption) | kernel_rfl); intro ws _ _) | ((with_reducible apply wpl_storecell); (exact rfl); (exact rfl); (exact inferInstance); (exact rfl); (first | (with_reducible assumption) | omega | (focus (simp; done)) | (focus (simp; omega; done)) | decide); intro ws _ _))
    refine (newIn_calls seed 0 _ (by decide) (by decide)).mono ?_
    rintro e w5 ⟨z1, rfl, _, _, _⟩
    have n5 : Nw w w5 := inferInstance
    go_wp2_with (first | go_skip | ((with_reducible apply wpl_alloc); intro z wz _ _ _) | ((with_reducible apply wpl_box_agg); (exact rfl); intro z wz _ _ _) | ((with_reducible apply wpl_box_int); (exact rfl); intro z wz _ _ _) | ((with_reducible apply wpl_box_slice); (exact rfl); intro z wz _ _ _) | ((with_reducible apply wpl_box_str); (exact rfl); intro z wz _ _ _) | ((with_reducible apply wpl_box_bool); (exact rfl); intro z wz _ _ _) | ((with_reducible apply wpl_box_ptr); (exact rfl); intro z wz _ _ _) | ((with_reducible apply (wpl_guard (op := .load _ _))); (exact rfl)) | ((with_reducible apply wpl_loadrow); (exact rfl); (exact inferInstance); (exact inferInstance); (first | (with_reducible assumption) | (with_reducible exact H32.size _) | kernel_rfl)) | ((with_reducible apply wpl_loadcellN); (exact rfl); (exact inferInstance); (exact rfl)) | ((with_reducible apply wpl_storerow); (exact rfl); (exact rfl); (exact inferInstance); (exact inferInstance); (first | (with_reducible assumption) | (with_reducible exact H32.size _) | kernel_rfl); (first | (with_reducible assumption) | (with_reducible exact H32.size _) | kernel_rfl); (first | (with_reducible exact u8s_one _) | (with_reducible assumption) | kernel_rfl); intro ws _ _) | ((with_reducible apply wpl_storecell); (exact rfl); (exact rfl); (exact inferInstance); (exact rfl); (first | (with_reducible assumption) | omega | (focus (simp; done)) | (focus (simp; omega; done)) | decide); intro ws _ _))
    refine (ksignD_calls (used := 0) HM.out hc (by omega) (by decide) (by decide)).mono ?_
    rw [← HS.out, ← HP.out, HPL.out]
    rintro e w7 ⟨z7, A7, c7, rfl, _, _, _, _, _, hOA, _, _⟩
    have n7 : Nw w w7 := inferInstance
    obtain ⟨g7, rfl⟩ := hOA.some_ (by decide)
    go_wp2_with (first | go_skip | ((with_reducible apply (wpl_alloc (dst := some 12))); intro z12 wz12 _ _ _) | ((with_reducible apply (wpl_box_agg (dst := some 12))); (exact rfl); intro z12 wz12 _ _ _) | ((with_reducible apply (wpl_box_int (dst := some 12))); (exact rfl); intro z12 wz12 _ _ _) | ((with_reducible apply (wpl_box_slice (dst := some 12))); (exact rfl); intro z12 wz12 _ _ _) | ((with_reducible apply (wpl_box_str (dst := some 12))); (exact rfl); intro z12 wz12 _ _ _) | ((with_reducible apply (wpl_box_bool (dst := some 12))); (exact rfl); intro z12 wz12 _ _ _) | ((with_reducible apply (wpl_box_ptr (dst := some 12))); (exact rfl); intro z12 wz12 _ _ _) | ((with_reducible apply wpl_alloc); intro z wz _ _ _) | ((with_reducible apply wpl_box_agg); (exact rfl); intro z wz _ _ _) | ((with_reducible apply wpl_box_int); (exact rfl); intro z wz _ _ _) | ((with_reducible apply wpl_box_slice); (exact rfl); intro z wz _ _ _) | ((with_reducible apply wpl_box_str); (exact rfl); intro z wz _ _ _) | ((with_reducible apply wpl_box_bool); (exact rfl); intro z wz _ _ _) | ((with_reducible apply wpl_box_ptr); (exact rfl); intro z wz _ _ _) | ((with_reducible apply (wpl_guard (op := .load _ _))); (exact rfl)) | ((with_reducible apply wpl_loadrow); (exact rfl); (exact inferInstance); (exact inferInstance); (first | (with_reducible assumption) | (with_reducible exact H32.size _) | kernel_rfl)) | ((with_reducible apply wpl_loadcellN); (exact rfl); (exact inferInstance); (exact rfl)) | ((with_reducible apply wpl_storerow); (exact rfl); (exact rfl); (exact inferInstance); (exact inferInstance); (first | (with_reducible assumption) | (with_reducible exact H32.size _) | kernel_rfl); (first | (with_reducible assumption) | (with_reducible exact H32.size _) | kernel_rfl); (first | (with_reducible exact u8s_one _) | (with_reducible assumption) | kernel_rfl); intro ws _ _) | ((with_reducible apply wpl_storecell); (exact rfl); (exact rfl); (exact inferInstance); (exact rfl); (first | (with_reducible assumption) | omega | (focus (simp; done)) | (focus (simp; omega; done)) | decide); intro ws _ _))
    refine (ris_calls _).mono ?_
    rw [show isS 0 36 4 = true from rfl]
    rintro e w8 ⟨rfl, _⟩
    have n8 : Nw w w8 := inferInstance
    go_wp2_with (first | go_skip | ((with_reducible apply wpl_alloc); intro z wz _ _ _) | ((with_reducible apply wpl_box_agg); (exact rfl); intro z wz _ _ _) | ((with_reducible apply wpl_box_int); (exact rfl); intro z wz _ _ _) | ((with_reducible apply wpl_box_slice); (exact rfl); intro z wz _ _ _) | ((with_reducible apply wpl_box_str); (exact rfl); intro z wz _ _ _) | ((with_reducible apply wpl_box_bool); (exact rfl); intro z wz _ _ _) | ((with_reducible apply wpl_box_ptr); (exact rfl); intro z wz _ _ _) | ((with_reducible apply (wpl_guard (op := .load _ _))); (exact rfl)) | ((with_reducible apply wpl_loadrow); (exact rfl); (exact inferInstance); (exact inferInstance); (first | (with_reducible assumption) | (with_reducible exact H32.size _) | kernel_rfl)) | ((with_reducible apply wpl_loadcellN); (exact rfl); (exact inferInstance); (exact rfl)) | ((with_reducible apply wpl_storerow); (exact rfl); (exact rfl); (exact inferInstance); (exact inferInstance); (first | (with_reducible assumption) | (with_reducible exact H32.size _) | kernel_rfl); (first | (with_reducible assumption) | (with_reducible exact H32.size _) | kernel_rfl); (first | (with_reducible exact u8s_one _) | (with_reducible assumption) | kernel_rfl); intro ws _ _) | ((with_reducible apply wpl_storecell); (exact rfl); (exact rfl); (exact inferInstance); (exact rfl); (first | (with_reducible assumption) | omega | (focus (simp; done)) | (focus (simp; omega; done)) | decide); intro ws _ _))
    rw [HBI.out]
    refine wp_region_N ((rowOf (some ⟨g7, 0, none⟩))) (by kernel_rfl) (fun wd _ _ => ?_)
    refine' takeH (i := 0) (v := _) rfl (by kernel_rfl) (by kernel_rfl) (by kernel_rfl) (fun _ _ _ h => h) (yields_of (by rfl) (fun w' _ => ?_)) inferInstance ?_
    rotate_left
    · (go_simp; try with_reducible rfl)
    try simp only [Act.put, List.setIfInBounds_toArray]; try simp only [List.set_cons_succ, List.set_cons_zero]
    refine' takeH (i := 1) (v := _) rfl (by kernel_rfl) (by kernel_rfl) (by kernel_rfl) (fun _ _ _ h => h) (yields_of (by rfl) (fun w' _ => ?_)) inferInstance ?_
    rotate_left
    · (first | ((with_reducible apply (ev_loadKSeed (t := 23))); (exact rfl); (exact inferInstance); (exact inferInstance)) | ((with_reducible apply (ev_loadKUsed (t := 3))); (exact rfl); (exact inferInstance); (exact inferInstance)) | ((with_reducible apply ev_loadrow); (exact rfl); (exact inferInstance); (exact inferInstance); (first | (with_reducible assumption) | (with_reducible exact H32.size _) | kernel_rfl)) | ((with_reducible apply (ev_loadhash (t := 23))); (exact rfl); (exact inferInstance); (exact inferInstance); (first | (with_reducible assumption) | omega)) | ((with_reducible apply ev_loadcellN); (exact rfl); (exact inferInstance); (exact inferInstance); (exact rfl)) | ((with_reducible apply (ev_loadint (t := 3))); (exact rfl); (exact inferInstance); (exact inferInstance); (first | (with_reducible assumption) | omega)) | ((with_reducible apply (ev_loadbyte (t := 5))); (exact rfl); (exact inferInstance); (exact inferInstance); (first | (with_reducible assumption) | omega)) | (go_simp; try with_reducible rfl))
    try simp only [Act.put, List.setIfInBounds_toArray]; try simp only [List.set_cons_succ, List.set_cons_zero]
    refine' takeH (i := 2) (v := _) rfl (by kernel_rfl) (by kernel_rfl) (by kernel_rfl) (fun _ _ _ h => h) (yields_of (by rfl) (fun w' _ => ?_)) inferInstance ?_
    rotate_left
    · (go_simp; try with_reducible rfl)
    try simp only [Act.put, List.setIfInBounds_toArray]; try simp only [List.set_cons_succ, List.set_cons_zero]
    refine' takeH (i := 3) (v := _) rfl (by kernel_rfl) (by kernel_rfl) (by kernel_rfl) (fun _ _ _ h => h) (yields_of (by rfl) (fun w' _ => ?_)) inferInstance ?_
    rotate_left
    · (go_simp; try with_reducible rfl)
    try simp only [Act.put, List.setIfInBounds_toArray]; try simp only [List.set_cons_succ, List.set_cons_zero]
    refine' takeH (i := 4) (v := _) rfl (by kernel_rfl) (by kernel_rfl) (by kernel_rfl) (fun _ _ _ h => h) (yields_of (by rfl) (fun w' _ => ?_)) inferInstance ?_
    rotate_left
    · (go_simp; try with_reducible rfl)
    try simp only [Act.put, List.setIfInBounds_toArray]; try simp only [List.set_cons_succ, List.set_cons_zero]
    refine' takeH (i := 5) (v := _) rfl (by kernel_rfl) (by kernel_rfl) (by kernel_rfl) (fun _ _ _ h => h) (yields_of (by rfl) (fun w' _ => ?_)) inferInstance ?_
    rotate_left
    · (go_simp; try with_reducible rfl)
    try simp only [Act.put, List.setIfInBounds_toArray]; try simp only [List.set_cons_succ, List.set_cons_zero]
    refine' takeH (i := 6) (v := _) rfl (by kernel_rfl) (by kernel_rfl) (by kernel_rfl) (fun _ _ _ h => h) (yields_of (by rfl) (fun w' _ => ?_)) inferInstance ?_
    rotate_left
    · (first | ((with_reducible apply ev_indexSN); (exact rfl); (exact rfl); (exact inferInstance); (first | (with_reducible assumption) | omega)) | ((with_reducible apply ev_indexS); (exact rfl); (exact rfl); (exact inferInstance); (first | (with_reducible assumption) | omega); (first | (with_reducible assumption) | omega)) | ((with_reducible apply ev_indexArr); (exact rfl); (exact rfl); (exact Try.underlying23); (kernel_rfl); (first | (with_reducible assumption) | omega); (first | (with_reducible assumption) | omega)) | ((with_reducible apply ev_indexH'); (exact rfl); (exact rfl); (exact inferInstance); (exact inferInstance); (first | (with_reducible assumption) | omega); (first | (with_reducible assumption) | omega); (first | (with_reducible assumption) | omega)) | ((with_reducible apply ev_indexH); (exact rfl); (exact rfl); (exact inferInstance); (exact inferInstance); (first | (with_reducible assumption) | omega); (first | (with_reducible assumption) | omega)) | (go_simp; try with_reducible rfl))
    try simp only [Act.put, List.setIfInBounds_toArray]; try simp only [List.set_cons_succ, List.set_cons_zero]
    refine' takeH (i := 7) (v := _) rfl (by kernel_rfl) (by kernel_rfl) (by kernel_rfl) (fun _ _ _ h => h) (yields_of (by rfl) (fun w' _ => ?_)) inferInstance ?_
    rotate_left
    · (first | ((with_reducible apply ev_indexSN); (exact rfl); (exact rfl); (exact inferInstance); (first | (with_reducible assumption) | omega)) | ((with_reducible apply ev_indexS); (exact rfl); (exact rfl); (exact inferInstance); (first | (with_reducible assumption) | omega); (first | (with_reducible assumption) | omega)) | ((with_reducible apply ev_indexArr); (exact rfl); (exact rfl); (exact Try.underlying23); (kernel_rfl); (first | (with_reducible assumption) | omega); (first | (with_reducible assumption) | omega)) | ((with_reducible apply ev_indexH'); (exact rfl); (exact rfl); (exact inferInstance); (exact inferInstance); (first | (with_reducible assumption) | omega); (first | (with_reducible assumption) | omega); (first | (with_reducible assumption) | omega)) | ((with_reducible apply ev_indexH); (exact rfl); (exact rfl); (exact inferInstance); (exact inferInstance); (first | (with_reducible assumption) | omega); (first | (with_reducible assumption) | omega)) | (go_simp; try with_reducible rfl))
    try simp only [Act.put, List.setIfInBounds_toArray]; try simp only [List.set_cons_succ, List.set_cons_zero]
    refine' takeH (i := 9) (v := _) rfl (by kernel_rfl) (by kernel_rfl) (by kernel_rfl) (fun _ _ _ h => h) (yields_of (by rfl) (fun w' _ => ?_)) inferInstance ?_
    rotate_left
    · (go_simp; try with_reducible rfl)
    try simp only [Act.put, List.setIfInBounds_toArray]; try simp only [List.set_cons_succ, List.set_cons_zero]
    refine' takeH (i := 11) (v := _) rfl (by kernel_rfl) (by kernel_rfl) (by kernel_rfl) (fun _ _ _ h => h) (yields_of (by rfl) (fun w' _ => ?_)) inferInstance ?_
    rotate_left
    · (first | ((with_reducible apply ev_indexSN); (exact rfl); (exact rfl); (exact inferInstance); (first | (with_reducible assumption) | omega)) | ((with_reducible apply ev_indexS); (exact rfl); (exact rfl); (exact inferInstance); (first | (with_reducible assumption) | omega); (first | (with_reducible assumption) | omega)) | ((with_reducible apply ev_indexArr); (exact rfl); (exact rfl); (exact Try.underlying23); (kernel_rfl); (first | (with_reducible assumption) | omega); (first | (with_reducible assumption) | omega)) | ((with_reducible apply ev_indexH'); (exact rfl); (exact rfl); (exact inferInstance); (exact inferInstance); (first | (with_reducible assumption) | omega); (first | (with_reducible assumption) | omega); (first | (with_reducible assumption) | omega)) | ((with_reducible apply ev_indexH); (exact rfl); (exact rfl); (exact inferInstance); (exact inferInstance); (first | (with_reducible assumption) | omega); (first | (with_reducible assumption) | omega)) | (go_simp; try with_reducible rfl))
    try simp only [Act.put, List.setIfInBounds_toArray]; try simp only [List.set_cons_succ, List.set_cons_zero]
    refine goH (i := 8) (by kernel_rfl) rfl (fun K_ hK_ => ?_)
    rw [if_pos (by kernel_rfl)]
    refine wpr_of_list ?_
    (first | ((with_reducible apply wpl_loadrow); (exact rfl); (exact inferInstance); (exact inferInstance); (first | (with_reducible assumption) | (with_reducible exact H32.size _) | kernel_rfl)) | ((with_reducible apply wpl_loadcellN); (exact rfl); (exact inferInstance); (exact rfl)) | ((with_reducible apply (wpl_loadhash (t := 23))); (exact rfl); (exact inferInstance); (exact inferInstance); (first | (with_reducible assumption) | omega)) | ((with_reducible apply (wpl_loadbyteH (t := 5))); (exact rfl); (exact inferInstance); (first | (with_reducible assumption) | omega); (first | (with_reducible assumption) | omega)) | ((with_reducible apply (wpl_loadint (t := 3))); (exact rfl); (exact inferInstance); (exact inferInstance); (first | (with_reducible assumption) | omega)) | ((with_reducible apply (wpl_loadbyte (t := 5))); (exact rfl); (exact inferInstance); (exact inferInstance); (first | (with_reducible assumption) | omega)))
    refine wpList_nil ?_
    unfold onlyN
    refine hK_.out _ _ inferInstance (fun _ => ?_)
    clear hK_ K_
    try simp only [Act.put, List.setIfInBounds_toArray]; try simp only [List.set_cons_succ, List.set_cons_zero]
    refine' takeH (i := 10) (v := _) rfl (by kernel_rfl) (by kernel_rfl) (by kernel_rfl) (fun _ _ _ h => h) (yields_of (by rfl) (fun w' _ => ?_)) inferInstance ?_
    rotate_left
    · (go_simp; try with_reducible rfl)
    try simp only [Act.put, List.setIfInBounds_toArray]; try simp only [List.set_cons_succ, List.set_cons_zero]
    refine' takeH (i := 12) (v := _) rfl (by kernel_rfl) (by kernel_rfl) (by kernel_rfl) (fun _ _ _ h => h) (yields_of (by rfl) (fun w' _ => ?_)) inferInstance ?_
    rotate_left
    · (first | ((with_reducible apply ev_indexSN); (exact rfl); (exact rfl); (exact inferInstance); (first | (with_reducible assumption) | omega)) | ((with_reducible apply ev_indexS); (exact rfl); (exact rfl); (exact inferInstance); (first | (with_reducible assumption) | omega); (first | (with_reducible assumption) | omega)) | ((with_reducible apply ev_indexArr); (exact rfl); (exact rfl); (exact Try.underlying23); (kernel_rfl); (first | (with_reducible assumption) | omega); (first | (with_reducible assumption) | omega)) | ((with_reducible apply ev_indexH'); (exact rfl); (exact rfl); (exact inferInstance); (exact inferInstance); (first | (with_reducible assumption) | omega); (first | (with_reducible assumption) | omega); (first | (with_reducible assumption) | omega)) | ((with_reducible apply ev_indexH); (exact rfl); (exact rfl); (exact inferInstance); (exact inferInstance); (first | (with_reducible assumption) | omega); (first | (with_reducible assumption) | omega)) | (go_simp; try with_reducible rfl))
    try simp only [Act.put, List.setIfInBounds_toArray]; try simp only [List.set_cons_succ, List.set_cons_zero]
    refine goH (i := 13) (by kernel_rfl) rfl (fun K_ hK_ => ?_)
    rw [if_pos (by kernel_rfl)]
    refine wpr_of_list ?_
    (first | ((with_reducible apply wpl_storerow); (exact rfl); (exact rfl); (exact inferInstance); (exact inferInstance); (first | (with_reducible assumption) | (with_reducible exact H32.size _) | kernel_rfl); (first | (with_reducible assumption) | (with_reducible exact H32.size _) | kernel_rfl); (first | (with_reducible exact u8s_one _) | (with_reducible assumption) | kernel_rfl); intro ws _ _) | ((with_reducible apply wpl_storecell); (exact rfl); (exact rfl); (exact inferInstance); (exact rfl); (first | (with_reducible assumption) | omega | (focus (simp; done)) | (focus (simp; omega; done)) | decide); intro ws _ _) | ((with_reducible apply (wpl_storehash (t := 23))); (exact rfl); (exact rfl); (exact inferInstance); (exact inferInstance); (first | (with_reducible assumption) | omega | (focus (simp; done)) | (focus (simp; omega; done)) | decide); intro ws _ _) | ((with_reducible apply (wpl_storebyteH (t := 5))); (exact rfl); (exact rfl); (exact inferInstance); (first | (with_reducible assumption) | omega); (first | (with_reducible assumption) | omega); (first | (constructor <;> omega) | exact xor_u8_in _ _); intro ws _ _) | ((with_reducible apply (wpl_storeint (t := 3))); (exact rfl); (exact rfl); (exact inferInstance); (first | (with_reducible assumption) | omega); intro ws _ _) | ((with_reducible apply (wpl_storebyte (t := 5))); (exact rfl); (exact rfl); (exact inferInstance); (first | (with_reducible assumption) | omega | (focus (simp; done)) | (focus (simp; omega; done)) | decide); (constructor <;> omega); intro ws _ _))
    refine wpList_nil ?_
    unfold onlyN
    refine hK_.out _ _ inferInstance (fun _ => ?_)
    clear hK_ K_
    try simp only [Act.put]
    refine wpAnyH_done (by kernel_rfl) ?_ _
    obtain ⟨P2, hP2, hO2⟩ : ∃ P2 : List H32, P2.length = 4 ∧ HO ws 23 32 (some ⟨g7, 0, none⟩) 4 c7 (cellsOf P2) := ⟨_, by rw [List.length_set, hPl], inferInstance⟩
    have n9 : Nw w ws := inferInstance
    go_wp2_with (first | go_skip | ((with_reducible apply wpl_alloc); intro z wz _ _ _) | ((with_reducible apply wpl_box_agg); (exact rfl); intro z wz _ _ _) | ((with_reducible apply wpl_box_int); (exact rfl); intro z wz _ _ _) | ((with_reducible apply wpl_box_slice); (exact rfl); intro z wz _ _ _) | ((with_reducible apply wpl_box_str); (exact rfl); intro z wz _ _ _) | ((with_reducible apply wpl_box_bool); (exact rfl); intro z wz _ _ _) | ((with_reducible apply wpl_box_ptr); (exact rfl); intro z wz _ _ _) | ((with_reducible apply (wpl_guard (op := .load _ _))); (exact rfl)) | ((with_reducible apply wpl_loadrow); (exact rfl); (exact inferInstance); (exact inferInstance); (first | (with_reducible assumption) | (with_reducible exact H32.size _) | kernel_rfl)) | ((with_reducible apply wpl_loadcellN); (exact rfl); (exact inferInstance); (exact rfl)) | ((with_reducible apply wpl_storerow); (exact rfl); (exact rfl); (exact inferInstance); (exact inferInstance); (first | (with_reducible assumption) | (with_reducible exact H32.size _) | kernel_rfl); (first | (with_reducible assumption) | (with_reducible exact H32.size _) | kernel_rfl); (first | (with_reducible exact u8s_one _) | (with_reducible assumption) | kernel_rfl); intro ws _ _) | ((with_reducible apply wpl_storecell); (exact rfl); (exact rfl); (exact inferInstance); (exact rfl); (first | (with_reducible assumption) | omega | (focus (simp; done)) | (focus (simp; omega; done)) | decide); intro ws _ _))
    obtain ⟨V, hV⟩ : ∃ V, V = verifyS N m 0 S P2 := ⟨_, rfl⟩
    have HV := Lib.hid hV
    clear hV
    cases V with
    | false =>
      refine wp_region_N ((only z1)) (by kernel_rfl) (fun wd _ _ => ?_)
      refine' takeH (i := 0) (v := _) rfl (by kernel_rfl) (by kernel_rfl) (by kernel_rfl) (fun _ _ _ h => h) (yields_of (by rfl) (fun w' _ => ?_)) inferInstance ?_
      rotate_left
      · (go_simp; try with_reducible rfl)
      try simp only [Act.put, List.setIfInBounds_toArray]; try simp only [List.set_cons_succ, List.set_cons_zero]
      refine' takeH (i := 2) (v := _) rfl (by kernel_rfl) (by kernel_rfl) (by kernel_rfl) (fun _ _ _ h => h) (yields_of (by rfl) (fun w' _ => ?_)) inferInstance ?_
      rotate_left
      · (go_simp; try with_reducible rfl)
      try simp only [Act.put, List.setIfInBounds_toArray]; try simp only [List.set_cons_succ, List.set_cons_zero]
      refine' takeH (i := 3) (v := _) rfl (by kernel_rfl) (by kernel_rfl) (by kernel_rfl) (fun _ _ _ h => h) (yields_of (by rfl) (fun w' _ => ?_)) inferInstance ?_
      rotate_left
      · (first | ((with_reducible apply (ev_loadKSeed (t := 23))); (exact rfl); (exact inferInstance); (exact inferInstance)) | ((with_reducible apply (ev_loadKUsed (t := 3))); (exact rfl); (exact inferInstance); (exact inferInstance)) | ((with_reducible apply ev_loadrow); (exact rfl); (exact inferInstance); (exact inferInstance); (first | (with_reducible assumption) | (with_reducible exact H32.size _) | kernel_rfl)) | ((with_reducible apply (ev_loadhash (t := 23))); (exact rfl); (exact inferInstance); (exact inferInstance); (first | (with_reducible assumption) | omega)) | ((with_reducible apply ev_loadcellN); (exact rfl); (exact inferInstance); (exact inferInstance); (exact rfl)) | ((with_reducible apply (ev_loadint (t := 3))); (exact rfl); (exact inferInstance); (exact inferInstance); (first | (with_reducible assumption) | omega)) | ((with_reducible apply (ev_loadbyte (t := 5))); (exact rfl); (exact inferInstance); (exact inferInstance); (first | (with_reducible assumption) | omega)) | (go_simp; try with_reducible rfl))
      try simp only [Act.put, List.setIfInBounds_toArray]; try simp only [List.set_cons_succ, List.set_cons_zero]
      refine goH (i := 1) (by kernel_rfl) rfl (fun K_ hK_ => ?_)
      go_simp
      refine (kpublic_calls (zk := z1)).mono ?_
      rw [← HN.out]
      rintro e w11 ⟨rfl, _, _⟩
      refine hK_.out _ _ inferInstance (fun _ => ?_)
      clear hK_ K_
      try simp only [Act.put, List.setIfInBounds_toArray]; try simp only [List.set_cons_succ, List.set_cons_zero]
      refine goH (i := 4) (by kernel_rfl) rfl (fun K_ hK_ => ?_)
      go_simp
      refine (verify_calls N 0 HM.out hc (by omega) HSL.out hP2).mono ?_
      rw [← HV.out]
      rintro e w12 ⟨rfl, _⟩
      refine hK_.out _ _ inferInstance (fun _ => ?_)
      clear hK_ K_
      try simp only [Act.put, List.setIfInBounds_toArray]; try simp only [List.set_cons_succ, List.set_cons_zero]
      refine' takeH (i := 5) (v := _) rfl (by kernel_rfl) (by kernel_rfl) (by kernel_rfl) (fun _ _ _ h => h) (yields_of (by rfl) (fun w' _ => ?_)) inferInstance ?_
      rotate_left
      · (go_simp; try with_reducible rfl)
      try simp only [Act.put, List.setIfInBounds_toArray]; try simp only [List.set_cons_succ, List.set_cons_zero]
      refine' takeH (i := 6) (v := _) rfl (by kernel_rfl) (by kernel_rfl) (by kernel_rfl) (fun _ _ _ h => h) (yields_of (by rfl) (fun w' _ => ?_)) inferInstance ?_
      rotate_left
      · (go_simp; try with_reducible rfl)
      try simp only [Act.put, List.setIfInBounds_toArray]; try simp only [List.set_cons_succ, List.set_cons_zero]
      refine takeH (i := 7) (v := undef) rfl (by kernel_rfl) (by kernel_rfl) (by kernel_rfl) (fun _ _ _ h => h) (Or.inr ⟨by rfl, rfl⟩) inferInstance ?_
      try simp only [Act.put, List.setIfInBounds_toArray]; try simp only [List.set_cons_succ, List.set_cons_zero]
      refine takeH (i := 8) (v := undef) rfl (by kernel_rfl) (by kernel_rfl) (by kernel_rfl) (fun _ _ _ h => h) (Or.inr ⟨by rfl, rfl⟩) inferInstance ?_
      try simp only [Act.put, List.setIfInBounds_toArray]; try simp only [List.set_cons_succ, List.set_cons_zero]
      refine takeH (i := 9) (v := undef) rfl (by kernel_rfl) (by kernel_rfl) (by kernel_rfl) (fun _ _ _ h => h) (Or.inr ⟨by rfl, rfl⟩) inferInstance ?_
      try simp only [Act.put, List.setIfInBounds_toArray]; try simp only [List.set_cons_succ, List.set_cons_zero]
      refine takeH (i := 10) (v := undef) rfl (by kernel_rfl) (by kernel_rfl) (by kernel_rfl) (fun _ _ _ h => h) (Or.inr ⟨by rfl, rfl⟩) inferInstance ?_
      try simp only [Act.put, List.setIfInBounds_toArray]; try simp only [List.set_cons_succ, List.set_cons_zero]
      refine takeH (i := 11) (v := undef) rfl (by kernel_rfl) (by kernel_rfl) (by kernel_rfl) (fun _ _ _ h => h) (Or.inr ⟨by rfl, rfl⟩) inferInstance ?_
      try simp only [Act.put, List.setIfInBounds_toArray]; try simp only [List.set_cons_succ, List.set_cons_zero]
      refine' takeH (i := 12) (v := _) rfl (by kernel_rfl) (by kernel_rfl) (by kernel_rfl) (fun _ _ _ h => h) (yields_of (by rfl) (fun w' _ => ?_)) inferInstance ?_
      rotate_left
      · (go_simp; try with_reducible rfl)
      try simp only [Act.put, List.setIfInBounds_toArray]; try simp only [List.set_cons_succ, List.set_cons_zero]
      refine' takeH (i := 13) (v := _) rfl (by kernel_rfl) (by kernel_rfl) (by kernel_rfl) (fun _ _ _ h => h) (yields_of (by rfl) (fun w' _ => ?_)) inferInstance ?_
      rotate_left
      · (go_simp; try with_reducible rfl)
      try simp only [Act.put, List.setIfInBounds_toArray]; try simp only [List.set_cons_succ, List.set_cons_zero]
      refine goH (i := 14) (by kernel_rfl) rfl (fun K_ hK_ => ?_)
      go_simp
      refine (kyKnown_calls _).mono ?_
      rintro e w13 ⟨rfl, _⟩
      refine hK_.out _ _ inferInstance (fun _ => ?_)
      clear hK_ K_
      try simp only [Act.put, List.setIfInBounds_toArray]; try simp only [List.set_cons_succ, List.set_cons_zero]
      refine' takeH (i := 15) (v := _) rfl (by kernel_rfl) (by kernel_rfl) (by kernel_rfl) (fun _ _ _ h => h) (yields_of (by rfl) (fun w' _ => ?_)) inferInstance ?_
      rotate_left
      · (go_simp; try with_reducible rfl)
      try simp only [Act.put, List.setIfInBounds_toArray]; try simp only [List.set_cons_succ, List.set_cons_zero]
      refine' takeH (i := 16) (v := _) rfl (by kernel_rfl) (by kernel_rfl) (by kernel_rfl) (fun _ _ _ h => h) (yields_of (by rfl) (fun w' _ => ?_)) inferInstance ?_
      rotate_left
      · (go_simp; try with_reducible rfl)
      try simp only [Act.put, List.setIfInBounds_toArray]; try simp only [List.set_cons_succ, List.set_cons_zero]
      refine wpAnyH_done (by kernel_rfl) ?_ _
      go_wp2_with (first | go_skip | ((with_reducible apply wpl_alloc); intro z wz _ _ _) | ((with_reducible apply wpl_box_agg); (exact rfl); intro z wz _ _ _) | ((with_reducible apply wpl_box_int); (exact rfl); intro z wz _ _ _) | ((with_reducible apply wpl_box_slice); (exact rfl); intro z wz _ _ _) | ((with_reducible apply wpl_box_str); (exact rfl); intro z wz _ _ _) | ((with_reducible apply wpl_box_bool); (exact rfl); intro z wz _ _ _) | ((with_reducible apply wpl_box_ptr); (exact rfl); intro z wz _ _ _) | ((with_reducible apply (wpl_guard (op := .load _ _))); (exact rfl)) | ((with_reducible apply wpl_loadrow); (exact rfl); (exact inferInstance); (exact inferInstance); (first | (with_reducible assumption) | (with_reducible exact H32.size _) | kernel_rfl)) | ((with_reducible apply wpl_loadcellN); (exact rfl); (exact inferInstance); (exact rfl)) | ((with_reducible apply wpl_storerow); (exact rfl); (exact rfl); (exact inferInstance); (exact inferInstance); (first | (with_reducible assumption) | (with_reducible exact H32.size _) | kernel_rfl); (first | (with_reducible assumption) | (with_reducible exact H32.size _) | kernel_rfl); (first | (with_reducible exact u8s_one _) | (with_reducible assumption) | kernel_rfl); intro ws _ _) | ((with_reducible apply wpl_storecell); (exact rfl); (exact rfl); (exact inferInstance); (exact rfl); (first | (with_reducible assumption) | omega | (focus (simp; done)) | (focus (simp; omega; done)) | decide); intro ws _ _))
      go_ret
      exact ⟨rfl, (stepN (w0 := w)).chg⟩
    | true =>
      refine wp_region_N ((only z1)) (by kernel_rfl) (fun wd _ _ => ?_)
      refine' takeH (i := 0) (v := _) rfl (by kernel_rfl) (by kernel_rfl) (by kernel_rfl) (fun _ _ _ h => h) (yields_of (by rfl) (fun w' _ => ?_)) inferInstance ?_
      rotate_left
      · (go_simp; try with_reducible rfl)
      try simp only [Act.put, List.setIfInBounds_toArray]; try simp only [List.set_cons_succ, List.set_cons_zero]
      refine' takeH (i := 2) (v := _) rfl (by kernel_rfl) (by kernel_rfl) (by kernel_rfl) (fun _ _ _ h => h) (yields_of (by rfl) (fun w' _ => ?_)) inferInstance ?_
      rotate_left
      · (go_simp; try with_reducible rfl)
      try simp only [Act.put, List.setIfInBounds_toArray]; try simp only [List.set_cons_succ, List.set_cons_zero]
      refine' takeH (i := 3) (v := _) rfl (by kernel_rfl) (by kernel_rfl) (by kernel_rfl) (fun _ _ _ h => h) (yields_of (by rfl) (fun w' _ => ?_)) inferInstance ?_
      rotate_left
      · (first | ((with_reducible apply (ev_loadKSeed (t := 23))); (exact rfl); (exact inferInstance); (exact inferInstance)) | ((with_reducible apply (ev_loadKUsed (t := 3))); (exact rfl); (exact inferInstance); (exact inferInstance)) | ((with_reducible apply ev_loadrow); (exact rfl); (exact inferInstance); (exact inferInstance); (first | (with_reducible assumption) | (with_reducible exact H32.size _) | kernel_rfl)) | ((with_reducible apply (ev_loadhash (t := 23))); (exact rfl); (exact inferInstance); (exact inferInstance); (first | (with_reducible assumption) | omega)) | ((with_reducible apply ev_loadcellN); (exact rfl); (exact inferInstance); (exact inferInstance); (exact rfl)) | ((with_reducible apply (ev_loadint (t := 3))); (exact rfl); (exact inferInstance); (exact inferInstance); (first | (with_reducible assumption) | omega)) | ((with_reducible apply (ev_loadbyte (t := 5))); (exact rfl); (exact inferInstance); (exact inferInstance); (first | (with_reducible assumption) | omega)) | (go_simp; try with_reducible rfl))
      try simp only [Act.put, List.setIfInBounds_toArray]; try simp only [List.set_cons_succ, List.set_cons_zero]
      refine goH (i := 1) (by kernel_rfl) rfl (fun K_ hK_ => ?_)
      go_simp
      refine (kpublic_calls (zk := z1)).mono ?_
      rw [← HN.out]
      rintro e w11 ⟨rfl, _, _⟩
      refine hK_.out _ _ inferInstance (fun _ => ?_)
      clear hK_ K_
      try simp only [Act.put, List.setIfInBounds_toArray]; try simp only [List.set_cons_succ, List.set_cons_zero]
      refine goH (i := 4) (by kernel_rfl) rfl (fun K_ hK_ => ?_)
      go_simp
      refine (verify_calls N 0 HM.out hc (by omega) HSL.out hP2).mono ?_
      rw [← HV.out]
      rintro e w12 ⟨rfl, _⟩
      refine hK_.out _ _ inferInstance (fun _ => ?_)
      clear hK_ K_
      try simp only [Act.put, List.setIfInBounds_toArray]; try simp only [List.set_cons_succ, List.set_cons_zero]
      refine' takeH (i := 5) (v := _) rfl (by kernel_rfl) (by kernel_rfl) (by kernel_rfl) (fun _ _ _ h => h) (yields_of (by rfl) (fun w' _ => ?_)) inferInstance ?_
      rotate_left
      · (go_simp; try with_reducible rfl)
      try simp only [Act.put, List.setIfInBounds_toArray]; try simp only [List.set_cons_succ, List.set_cons_zero]
      refine' takeH (i := 6) (v := _) rfl (by kernel_rfl) (by kernel_rfl) (by kernel_rfl) (fun _ _ _ h => h) (yields_of (by rfl) (fun w' _ => ?_)) inferInstance ?_
      rotate_left
      · (go_simp; try with_reducible rfl)
      try simp only [Act.put, List.setIfInBounds_toArray]; try simp only [List.set_cons_succ, List.set_cons_zero]
      refine' takeH (i := 7) (v := _) rfl (by kernel_rfl) (by kernel_rfl) (by kernel_rfl) (fun _ _ _ h => h) (yields_of (by rfl) (fun w' _ => ?_)) inferInstance ?_
      rotate_left
      · (go_simp; try with_reducible rfl)
      try simp only [Act.put, List.setIfInBounds_toArray]; try simp only [List.set_cons_succ, List.set_cons_zero]
      refine' takeH (i := 9) (v := _) rfl (by kernel_rfl) (by kernel_rfl) (by kernel_rfl) (fun _ _ _ h => h) (yields_of (by rfl) (fun w' _ => ?_)) inferInstance ?_
      rotate_left
      · (go_simp; try with_reducible rfl)
      try simp only [Act.put, List.setIfInBounds_toArray]; try simp only [List.set_cons_succ, List.set_cons_zero]
      refine' takeH (i := 10) (v := _) rfl (by kernel_rfl) (by kernel_rfl) (by kernel_rfl) (fun _ _ _ h => h) (yields_of (by rfl) (fun w' _ => ?_)) inferInstance ?_
      rotate_left
      · (first | ((with_reducible apply (ev_loadKSeed (t := 23))); (exact rfl); (exact inferInstance); (exact inferInstance)) | ((with_reducible apply (ev_loadKUsed (t := 3))); (exact rfl); (exact inferInstance); (exact inferInstance)) | ((with_reducible apply ev_loadrow); (exact rfl); (exact inferInstance); (exact inferInstance); (first | (with_reducible assumption) | (with_reducible exact H32.size _) | kernel_rfl)) | ((with_reducible apply (ev_loadhash (t := 23))); (exact rfl); (exact inferInstance); (exact inferInstance); (first | (with_reducible assumption) | omega)) | ((with_reducible apply ev_loadcellN); (exact rfl); (exact inferInstance); (exact inferInstance); (exact rfl)) | ((with_reducible apply (ev_loadint (t := 3))); (exact rfl); (exact inferInstance); (exact inferInstance); (first | (with_reducible assumption) | omega)) | ((with_reducible apply (ev_loadbyte (t := 5))); (exact rfl); (exact inferInstance); (exact inferInstance); (first | (with_reducible assumption) | omega)) | (go_simp; try with_reducible rfl))
      try simp only [Act.put, List.setIfInBounds_toArray]; try simp only [List.set_cons_succ, List.set_cons_zero]
      refine goH (i := 8) (by kernel_rfl) rfl (fun K_ hK_ => ?_)
      go_simp
      refine (kpublic_calls (zk := z1)).mono ?_
      rw [← HN.out]
      rintro e w14 ⟨rfl, _, _⟩
      refine hK_.out _ _ inferInstance (fun _ => ?_)
      clear hK_ K_
      try simp only [Act.put, List.setIfInBounds_toArray]; try simp only [List.set_cons_succ, List.set_cons_zero]
      refine goH (i := 11) (by kernel_rfl) rfl (fun K_ hK_ => ?_)
      go_simp
      refine (rverify_calls N 0 HM.out (by omega) HSL.out hP2).mono ?_
      rw [← HV.out]
      rintro e w15 ⟨rfl, _⟩
      refine hK_.out _ _ inferInstance (fun _ => ?_)
      clear hK_ K_
      try simp only [Act.put, List.setIfInBounds_toArray]; try simp only [List.set_cons_succ, List.set_cons_zero]
      refine' takeH (i := 12) (v := _) rfl (by kernel_rfl) (by kernel_rfl) (by kernel_rfl) (fun _ _ _ h => h) (yields_of (by rfl) (fun w' _ => ?_)) inferInstance ?_
      rotate_left
      · (go_simp; try with_reducible rfl)
      try simp only [Act.put, List.setIfInBounds_toArray]; try simp only [List.set_cons_succ, List.set_cons_zero]
      refine' takeH (i := 13) (v := _) rfl (by kernel_rfl) (by kernel_rfl) (by kernel_rfl) (fun _ _ _ h => h) (yields_of (by rfl) (fun w' _ => ?_)) inferInstance ?_
      rotate_left
      · (go_simp; try with_reducible rfl)
      try simp only [Act.put, List.setIfInBounds_toArray]; try simp only [List.set_cons_succ, List.set_cons_zero]
      refine goH (i := 14) (by kernel_rfl) rfl (fun K_ hK_ => ?_)
      go_simp
      refine (kyKnown_calls _).mono ?_
      rintro e w13 ⟨rfl, _⟩
      refine hK_.out _ _ inferInstance (fun _ => ?_)
      clear hK_ K_
      try simp only [Act.put, List.setIfInBounds_toArray]; try simp only [List.set_cons_succ, List.set_cons_zero]
      refine' takeH (i := 15) (v := _) rfl (by kernel_rfl) (by kernel_rfl) (by kernel_rfl) (fun _ _ _ h => h) (yields_of (by rfl) (fun w' _ => ?_)) inferInstance ?_
      rotate_left
      · (go_simp; try with_reducible rfl)
      try simp only [Act.put, List.setIfInBounds_toArray]; try simp only [List.set_cons_succ, List.set_cons_zero]
      refine' takeH (i := 16) (v := _) rfl (by kernel_rfl) (by kernel_rfl) (by kernel_rfl) (fun _ _ _ h => h) (yields_of (by rfl) (fun w' _ => ?_)) inferInstance ?_
      rotate_left
      · (go_simp; try with_reducible rfl)
      try simp only [Act.put, List.setIfInBounds_toArray]; try simp only [List.set_cons_succ, List.set_cons_zero]
      refine wpAnyH_done (by kernel_rfl) ?_ _
      go_wp2_with (first | go_skip | ((with_reducible apply wpl_alloc); intro z wz _ _ _) | ((with_reducible apply wpl_box_agg); (exact rfl); intro z wz _ _ _) | ((with_reducible apply wpl_box_int); (exact rfl); intro z wz _ _ _) | ((with_reducible apply wpl_box_slice); (exact rfl); intro z wz _ _ _) | ((with_reducible apply wpl_box_str); (exact rfl); intro z wz _ _ _) | ((with_reducible apply wpl_box_bool); (exact rfl); intro z wz _ _ _) | ((with_reducible apply wpl_box_ptr); (exact rfl); intro z wz _ _ _) | ((with_reducible apply (wpl_guard (op := .load _ _))); (exact rfl)) | ((with_reducible apply wpl_loadrow); (exact rfl); (exact inferInstance); (exact inferInstance); (first | (with_reducible assumption) | (with_reducible exact H32.size _) | kernel_rfl)) | ((with_reducible apply wpl_loadcellN); (exact rfl); (exact inferInstance); (exact rfl)) | ((with_reducible apply wpl_storerow); (exact rfl); (exact rfl); (exact inferInstance); (exact inferInstance); (first | (with_reducible assumption) | (with_reducible exact H32.size _) | kernel_rfl); (first | (with_reducible assumption) | (with_reducible exact H32.size _) | kernel_rfl); (first | (with_reducible exact u8s_one _) | (with_reducible assumption) | kernel_rfl); intro ws _ _) | ((with_reducible apply wpl_storecell); (exact rfl); (exact rfl); (exact inferInstance); (exact rfl); (first | (with_reducible assumption) | omega | (focus (simp; done)) | (focus (simp; omega; done)) | decide); intro ws _ _))
      go_ret
      exact ⟨rfl, (stepN (w0 := w)).chg⟩
end Go.Proofs.Ytmijlojjkgeplaa
