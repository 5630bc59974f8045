/- OtD, OtP -/
import Derived.Test.YtmnapacibpnodaaGreatUeOtS
import Derived.Test.YtmnapacibpnodaaGreatUeBase
section
open Go Go.RowKit
namespace Go.Proofs.YtmnapacibpnodaaGreat
instance iOtD_1 : ZeroT Tryz.prog 123 (i64s (List.replicate 36 0)) := ⟨.agg (i64s (List.replicate 36 0)), fun _ => by kernel_rfl, rfl⟩
instance iOtD_2 : RowT Tryz.prog 123 36 := ⟨by kernel_rfl, _, Tryz.underlying123, rfl⟩
set_option maxRecDepth 100000 in
set_option maxHeartbeats 800000 in
theorem toEnd_calls (z : Nat) (tz : TypeId) (ds : List Int) (hd : ds.length = 36) (h : H32) (i : Nat) (hi : i < 36) (w : World) [HB w z tz (i64s ds)] :
    Calls Tryz.prog 114 #[.pointer (some ⟨z, 0, none⟩), .agg (u8s h.l), .int .i64 (i : Int)] w fun e w' => e = .returned (.agg (u8s (walkS i (iget ds i) 3 h).l)) ∧ Step nowhere w w' := by
  have hid : i < ds.length := by omega
  have hiI : (i : Int) < 36 := by omega
  go_enter Tryz.func114, Tryz.ntmps114
  go_wp2_with (first | ((with_reducible apply (wpl_box_agg (dst := some 4))); (exact rfl); intro zh wzh _ _ _) | ((with_reducible apply (wpl_alloc (dst := some 6))); intro zo wzo _ _ _))
  refine wp_region_N ((only zo)) (by kernel_rfl) (fun wd _ _ => ?_)
  refine' takeH (i := 0) (v := _) rfl (by kernel_rfl) (by kernel_rfl) (by kernel_rfl) (fun _ _ _ h => h) (yields_of (by rfl) (fun w' _ => ?_)) inferInstance ?_
  rotate_left
  · ((with_reducible apply ev_loadrow); (exact rfl); infer_instance; infer_instance; (first | (with_reducible assumption) | (with_reducible exact H32.size _) | kernel_rfl))
  try simp only [Act.put, sA]; try simp only [sB, sC]
  refine' takeH (i := 1) (v := _) rfl (by kernel_rfl) (by kernel_rfl) (by kernel_rfl) (fun _ _ _ h => h) (yields_of (by rfl) (fun w' _ => ?_)) inferInstance ?_
  rotate_left
  · (go_simp; try with_reducible rfl)
  try simp only [Act.put, sA]; try simp only [sB, sC]
  refine' takeH (i := 2) (v := _) rfl (by kernel_rfl) (by kernel_rfl) (by kernel_rfl) (fun _ _ _ h => h) (yields_of (by rfl) (fun w' _ => ?_)) inferInstance ?_
  rotate_left
  · (go_simp; try with_reducible rfl)
  try simp only [Act.put, sA]; try simp only [sB, sC]
  refine' takeH (i := 3) (v := _) rfl (by kernel_rfl) (by kernel_rfl) (by kernel_rfl) (fun _ _ _ h => h) (yields_of (by rfl) (fun w' _ => ?_)) inferInstance ?_
  rotate_left
  · (go_simp; try with_reducible rfl)
  try simp only [Act.put, sA]; try simp only [sB, sC]
  refine' takeH (i := 4) (v := _) rfl (by kernel_rfl) (by kernel_rfl) (by kernel_rfl) (fun _ _ _ h => h) (yields_of (by rfl) (fun w' _ => ?_)) inferInstance ?_
  rotate_left
  · (go_simp; try with_reducible rfl)
  try simp only [Act.put, sA]; try simp only [sB, sC]
  refine' takeH (i := 5) (v := _) rfl (by kernel_rfl) (by kernel_rfl) (by kernel_rfl) (fun _ _ _ h => h) (yields_of (by rfl) (fun w' _ => ?_)) inferInstance ?_
  rotate_left
  · (go_simp; try with_reducible rfl)
  try simp only [Act.put, sA]; try simp only [sB, sC]
  refine' takeH (i := 6) (v := _) rfl (by kernel_rfl) (by kernel_rfl) (by kernel_rfl) (fun _ _ _ h => h) (yields_of (by rfl) (fun w' _ => ?_)) inferInstance ?_
  rotate_left
  · (go_simp; try with_reducible rfl)
  try simp only [Act.put, sA]; try simp only [sB, sC]
  refine' takeH (i := 7) (v := _) rfl (by kernel_rfl) (by kernel_rfl) (by kernel_rfl) (fun _ _ _ h => h) (yields_of (by rfl) (fun w' _ => ?_)) inferInstance ?_
  rotate_left
  · ((with_reducible apply (ev_loadint (t := 3))); (exact rfl); infer_instance; infer_instance; (first | (with_reducible assumption) | omega))
  try simp only [Act.put, sA]; try simp only [sB, sC]
  refine goH (i := 8) (by kernel_rfl) rfl (fun K_ hK_ => ?_)
  go_simp
  refine (walk_calls h i (iget ds i) 3 _).mono ?_
  rintro e w4 ⟨rfl, _⟩
  refine hK_.out _ _ inferInstance (fun _ => ?_)
  clear hK_ K_
  try simp only [Act.put, sA]; try simp only [sB, sC]
  refine goH (i := 9) (by kernel_rfl) rfl (fun K_ hK_ => ?_)
  rw [if_pos (by kernel_rfl)]
  refine wpr_of_list ?_
  (first | ((with_reducible apply wpl_storerow); (exact rfl); (exact rfl); infer_instance; infer_instance; (first | (with_reducible assumption) | (with_reducible exact H32.size _) | kernel_rfl); (first | (with_reducible assumption) | (with_reducible exact H32.size _) | kernel_rfl); (first | (with_reducible exact u8s_one _) | (with_reducible assumption) | kernel_rfl); intro ws _ _) | ((with_reducible apply (wpl_storeint (t := 3))); (exact rfl); (exact rfl); infer_instance; (first | (with_reducible assumption) | omega); intro ws _ _) | ((with_reducible apply (wpl_storebyte (t := 5))); (exact rfl); (exact rfl); infer_instance; (first | (with_reducible assumption) | omega | (focus (simp; done)) | (focus (simp; omega; done)) | decide); (constructor <;> omega); intro ws _ _) | ((with_reducible apply wpl_storecell); (exact rfl); (exact rfl); infer_instance; (exact rfl); (first | (with_reducible assumption) | omega | (focus (simp; done)) | (focus (simp; omega; done)) | decide); intro ws _ _) | ((with_reducible apply (wpl_storehash (t := 26))); (exact rfl); (exact rfl); infer_instance; infer_instance; (first | (with_reducible assumption) | omega | (focus (simp; done)) | (focus (simp; omega; done)) | decide); intro ws _ _))
  refine wpList_nil ?_
  unfold onlyN
  refine hK_.out _ _ inferInstance (fun _ => ?_)
  clear hK_ K_
  try simp only [Act.put]
  refine wpAnyH_done (by kernel_rfl) ?_ _
  go_wp2_with fail
  exact ret_row rfl rfl (n := 32) (H32.size _) rfl ⟨rfl, stepN⟩
set_option maxRecDepth 100000 in
set_option maxHeartbeats 800000 in
theorem secretFn_calls (zs zl : Nat) (seed : H32) (leaf : Int) (h : H32) (i : Nat) (w : World) {ts tl : TypeId} [HB w zs ts (u8s seed.l)] [HB w zl tl #[.int .i64 leaf]] :
    Calls Tryz.prog 142 #[.agg (u8s h.l), .int .i64 (i : Int), .pointer (some ⟨zs, 0, none⟩), .pointer (some ⟨zl, 0, none⟩)] w fun e w' => e = .returned (.agg (u8s (secretS seed leaf i).l)) ∧ Step nowhere w w' := by
  go_enter Tryz.func142, Tryz.ntmps142
  go_wp2_with (first | ((with_reducible apply (wpl_box_agg (dst := some 4))); (exact rfl); intro zh wzh _ _ _) | ((with_reducible apply (wpl_alloc (dst := some 6))); intro zo wzo _ _ _) | ((with_reducible apply wpl_loadrow); (exact rfl); infer_instance; infer_instance; (first | (with_reducible assumption) | (with_reducible exact H32.size _) | kernel_rfl)) | ((with_reducible apply wpl_loadcell); (exact rfl); infer_instance; (exact rfl)))
  refine (secret_calls seed leaf i _).mono ?_
  rintro e w4 ⟨rfl, _⟩
  go_wp2_with (first | ((with_reducible apply wpl_storerow); (exact rfl); (exact rfl); infer_instance; infer_instance; (first | (with_reducible assumption) | (with_reducible exact H32.size _) | kernel_rfl); (first | (with_reducible assumption) | (with_reducible exact H32.size _) | kernel_rfl); (first | (with_reducible exact u8s_one _) | (with_reducible assumption) | kernel_rfl); intro ws _ _))
  exact ret_row rfl rfl (n := 32) (H32.size _) rfl ⟨rfl, stepN⟩
def secretsS (seed : H32) (leaf : Int) : List H32 := mapH (fun _ i => secretS seed leaf i) (List.replicate 36 zeroH) 36
set_option maxRecDepth 100000 in
set_option maxHeartbeats 800000 in
theorem secrets_calls (seed : H32) (leaf : Int) (w : World) :
    Calls Tryz.prog 113 #[.agg (u8s seed.l), .int .i64 leaf] w fun e w' => ∃ z, e = .returned (.slice (some ⟨z, 0, none⟩) 36 36) ∧ Step nowhere w w' ∧ NewA w (some ⟨z, 0, none⟩) ∧ HO w' 26 32 (some ⟨z, 0, none⟩) 36 36 (cellsOf (secretsS seed leaf)) := by
  go_enter Tryz.func113, Tryz.ntmps113
  go_wp2_with (first | ((with_reducible apply (wpl_makehash (n := 36))); (exact rfl); (exact rfl); infer_instance; (decide); intro zm wm _ _ _) | ((with_reducible apply (wpl_box_agg (dst := some 2))); (exact rfl); intro zs wzs _ _ _) | ((with_reducible apply (wpl_box_int (dst := some 3))); (exact rfl); intro zl wzl _ _ _))
  refine (each_calls (l := List.replicate 36 zeroH) (by simp) (Nat.le_refl _) 142 (fun _ _ => by kernel_rfl) #[] #[.pointer (some ⟨zs, 0, none⟩), .pointer (some ⟨zl, 0, none⟩)] (fun _ i => secretS seed leaf i) (fun w' hw' h i _ => by
    have hs : Step nowhere _ w' := ⟨hw'.out⟩
    exact secretFn_calls zs zl seed leaf h i w')).mono ?_
  rintro e w5 ⟨z, rfl, _, hA, _⟩
  go_wp2_with fail
  go_ret
  exact ⟨z, rfl, stepN, hA.mono, inferInstance⟩
/-- a digit out of a byte -/
def digI (b : UInt8) (k : Nat) : Int := bits BinOp.and IntKind.i64 (wrap64 ((b.toNat : Int) / 2 ^ (6 - 2 * (k % 4)))) 3
theorem digI_all : ∀ b : Fin 256, ∀ j : Fin 4, digI (UInt8.ofNat b.val) j.val = ((b.val / 2 ^ (6 - 2 * j.val) % 4 : Nat) : Int) := by decide +kernel
theorem digI_eq (b : UInt8) (k : Nat) : digI b k = ((b.toNat / 2 ^ (6 - 2 * (k % 4)) % 4 : Nat) : Int) := by
  have h := digI_all ⟨b.toNat, b.toNat_lt⟩ ⟨k % 4, Nat.mod_lt _ (by decide)⟩
  simp only [UInt8.ofNat_toNat] at h
  rw [← h]
  unfold digI
  simp only [Nat.mod_mod]
theorem digI_in (b : UInt8) (k : Nat) : 0 ≤ digI b k ∧ digI b k ≤ 3 := by rw [digI_eq]; omega
/-- the first digits, and what is left over by them -/
def digs (h : H32) (k : Nat) : List Int := (List.range k).map fun i => digI (bget h.l (i / 4)) i
def left (h : H32) : Nat → Int
  | 0 => 0
  | k + 1 => left h k + (3 - digI (bget h.l (k / 4)) k)
theorem left_in (h : H32) : ∀ k, 0 ≤ left h k ∧ left h k ≤ 3 * k
  | 0 => by simp [left]
  | k + 1 => by have := left_in h k; have := digI_in (bget h.l (k / 4)) k; simp only [left]; omega
theorem digs_len (h : H32) (k : Nat) : (digs h k).length = k := by simp [digs]
theorem digs_snoc (h : H32) (k : Nat) : digs h (k + 1) = digs h k ++ [digI (bget h.l (k / 4)) k] := by simp [digs, List.range_succ]
def digZ (ds : List Int) : List Int := ds ++ List.replicate (36 - ds.length) 0
theorem digZ_set (ds : List Int) (d : Int) (h : ds.length < 36) : (digZ ds).set ds.length d = digZ (ds ++ [d]) := by
  unfold digZ
  rw [List.set_append_right _ _ (Nat.le_refl _), Nat.sub_self, List.append_assoc, List.length_append]
  congr 1
  have e : 36 - ds.length = (36 - (ds.length + [d].length)) + 1 := by simp; omega
  rw [e, List.replicate_succ]
  rfl
theorem digZ_len (ds : List Int) (h : ds.length ≤ 36) : (digZ ds).length = 36 := by simp [digZ]; omega
/-- the last four -/
def lastD : Nat → Int → List Int
  | 0, _ => []
  | n + 1, q => lastD n q ++ [q / 4 ^ n % 4]
theorem lastD_len (n : Nat) (q : Int) : (lastD n q).length = n := by
  induction n with
  | zero => rfl
  | succ n ih => simp [lastD, ih]
theorem and3_all : ∀ q : Fin 97, bits BinOp.and IntKind.i64 (q.val : Int) 3 = (q.val : Int) % 4 := by decide +kernel
theorem and3 (q : Int) (h0 : 0 ≤ q) (h1 : q ≤ 96) : bits BinOp.and IntKind.i64 q 3 = q % 4 := by
  have h := and3_all ⟨q.toNat, by omega⟩
  simp only [Int.toNat_of_nonneg h0] at h
  exact h
def digitsS (xs : List UInt8) : List Int := digs (shaH xs) 32 ++ lastD 4 (left (shaH xs) 32)
set_option maxRecDepth 100000 in
set_option maxHeartbeats 800000 in
theorem digitsW_calls {A : Option Addr} {n c : Nat} {xs : List UInt8} {w : World} [HR w A (bs xs)] (hl : xs.length = n) (hc : n ≤ c) (hn : n ≤ 140737488351232) :
    Calls Tryz.prog 145 #[.slice A n c] w fun e w' => e = .returned (.agg (i64s (digitsS xs))) ∧ Step nowhere w w' := by
  obtain ⟨H, hH⟩ : ∃ H, H = shaH xs := ⟨_, rfl⟩
  go_enter Tryz.func145, Tryz.ntmps145
  go_wp2_with (first | ((with_reducible apply (wpl_alloc (dst := some 2))); intro zo wzo _ _ _) | ((with_reducible apply (wpl_alloc (dst := some 3))); intro zd wzd _ _ _))
  refine (sumW_calls (xs := xs) hl hc hn).mono ?_
  rintro e w4 ⟨rfl, _⟩
  rw [← hH]
  have HH := Lib.hid hH
  clear hH
  go_wp2_with (first | ((with_reducible apply (wpl_alloc (dst := some 4))); intro zh wzh _ _ _) | ((with_reducible apply wpl_storerow); (exact rfl); (exact rfl); infer_instance; infer_instance; (first | (with_reducible assumption) | (with_reducible exact H32.size _) | kernel_rfl); (first | (with_reducible assumption) | (with_reducible exact H32.size _) | kernel_rfl); (first | (with_reducible exact u8s_one _) | (with_reducible assumption) | kernel_rfl); intro ws _ _))
  go_loopw [5, 6, 10] (fun less i j wr => ∃ k : Nat, k ≤ 32 ∧ j = .int .i64 (k : Int) ∧ less = .int .i64 (left H k) ∧ Step nowhere w wr ∧ HB wr zo 123 (i64s (List.replicate 36 0)) ∧ HB wr zh 26 (u8s H.l) ∧ HB wr zd 123 (i64s (digZ (digs H k)))) (fun _ _ j _ => 32 - (intOf j).toNat)
  case atStart => exact ⟨0, by omega, rfl, rfl, stepN, inferInstance, inferInstance, (inferInstance : HB _ zd _ (i64s (List.replicate 36 0)))⟩
  case round =>
    obtain ⟨k, hk, rfl, rfl, _, _, _, _⟩ := hrel
    by_cases hlt : k < 32
    · have hdl := digs_len H k
      have hzl := digZ_len (digs H k) (by omega)
      have hkl : k < (digZ (digs H k)).length := by omega
      have hkI : (k : Int) < 36 := by omega
      have hk4 : k / 4 < H.l.length := by rw [H32.len_]; omega
      have hk4I : (k : Int) / 4 < 32 := by omega
      have hq := left_in H k
      obtain ⟨d, hd⟩ : ∃ d, d = digI (bget H.l (k / 4)) k := ⟨_, rfl⟩
      have hfold : bits BinOp.and IntKind.i64 (wrap64 (((bget H.l (k / 4)).toNat : Int) / 2 ^ (6 - 2 * (k % 4)))) 3 = d := hd.symm
      have hdi : 0 ≤ d ∧ d ≤ 3 := by rw [hd]; exact digI_in _ _
      have hget := iget_set (digZ (digs H k)) k d hkl
      have hkl2 : k < ((digZ (digs H k)).set k d).length := by rw [List.length_set]; exact hkl
      obtain ⟨hdi0, hdi3⟩ := hdi
      obtain ⟨hq0, hq1⟩ := hq
      have HD := Lib.hid hd
      clear hd
      go_wp2_with (first | ((with_reducible apply (wpl_loadint (t := 3))); (exact rfl); infer_instance; infer_instance; (first | (with_reducible assumption) | omega)) | ((with_reducible apply (wpl_loadbyte (t := 5))); (exact rfl); infer_instance; infer_instance; (first | (with_reducible assumption) | omega)) | ((with_reducible apply (wpl_storeint (t := 3))); (exact rfl); (exact rfl); infer_instance; (first | (with_reducible assumption) | omega); intro ws _ _))
      refine ⟨⟨k + 1, by omega, by go_num, ?_, stepN, inferInstance, inferInstance, ?_⟩, by simp [intOf]; omega⟩
      · rw [left, ← HD.out]
      · have e := digZ_set (digs H k) d (by omega)
        rw [hdl, HD.out, ← digs_snoc, ← HD.out] at e
        rw [← e]
        exact inferInstance
    · have hk32 : Hid (k = 32) := Lib.hid (by omega)
      have hge : 32 ≤ k := by omega
      have hq := left_in H k
      have hdl := digs_len H k
      go_wp2_with fail
      go_loopw [5, 7] (fun less j wr => ∃ m : Nat, m ≤ 4 ∧ j = .int .i64 (32 + (m : Int)) ∧ less = .int .i64 (left H k / 4 ^ m) ∧ Step nowhere w wr ∧ HB wr zo 123 (i64s (List.replicate 36 0)) ∧ HB wr zd 123 (i64s (digZ (digs H k ++ lastD m (left H k))))) (fun _ j _ => 36 - (intOf j).toNat)
      case atStart => exact ⟨0, by omega, rfl, by simp, stepN, inferInstance, by simp only [lastD, List.append_nil]; exact inferInstance⟩
      case round =>
        obtain ⟨m, hm, rfl, rfl, _, _, _⟩ := hrel
        have hll : (digs H k ++ lastD m (left H k)).length = 32 + m := by rw [List.length_append, digs_len, lastD_len]; omega
        have hzl := digZ_len (digs H k ++ lastD m (left H k)) (by omega)
        obtain ⟨hq0, hq1⟩ := hq
        obtain ⟨q, hqd⟩ : ∃ q, q = left H k / 4 ^ m := ⟨_, rfl⟩
        have hqin : 0 ≤ q ∧ q ≤ 96 := by
          rw [hqd]
          rcases (show m = 0 ∨ m = 1 ∨ m = 2 ∨ m = 3 ∨ m = 4 by omega) with rfl | rfl | rfl | rfl | rfl <;> omega
        obtain ⟨hqi0, hqi1⟩ := hqin
        have hand := and3 q hqi0 hqi1
        by_cases hlt : m < 4
        · have hkl : 32 + m < (digZ (digs H k ++ lastD m (left H k))).length := by omega
          have hkI : 32 + (m : Int) < 36 := by omega
          have hoff : (32 + (m : Int)).toNat = 32 + m := by omega
          have HQ := Lib.hid hqd
          rw [← HQ.out]
          clear hqd hdl
          have HLL := Lib.hid hll
          clear hll
          go_wp2_with (first | ((with_reducible apply (wpl_storeint (t := 3))); (exact rfl); (exact rfl); infer_instance; (first | (with_reducible assumption) | omega); intro ws _ _))
          refine ⟨⟨m + 1, by omega, by go_num, ?_, stepN, inferInstance, ?_⟩, by simp [intOf]; omega⟩
          · rw [HQ.out, Int.pow_succ, Int.ediv_ediv_of_nonneg (Int.pow_nonneg (by decide))]
          · have e := digZ_set (digs H k ++ lastD m (left H k)) (q % 4) (by have := HLL.out; omega)
            rw [HLL.out] at e
            have e2 : digs H k ++ lastD m (left H k) ++ [q % 4] = digs H k ++ lastD (m + 1) (left H k) := by rw [HQ.out, lastD, List.append_assoc]
            rw [← e2, ← e]
            exact inferInstance
        · have HM : Hid (m = 4) := Lib.hid (by omega)
          have hge4 : 4 ≤ m := by omega
          have hsz : (i64s (digZ (digs H k ++ lastD m (left H k)))).size = 36 := by rw [i64s_size]; exact hzl
          have h1c := i64s_one (digZ (digs H k ++ lastD m (left H k)))
          go_wp2_with (first | ((with_reducible apply wpl_loadrow); (exact rfl); infer_instance; infer_instance; (first | (with_reducible assumption) | (with_reducible exact H32.size _) | kernel_rfl)) | ((with_reducible apply wpl_storerow); (exact rfl); (exact rfl); infer_instance; infer_instance; (first | (with_reducible assumption) | (with_reducible exact H32.size _) | kernel_rfl); (first | (with_reducible assumption) | (with_reducible exact H32.size _) | kernel_rfl); (first | (with_reducible exact u8s_one _) | (with_reducible assumption) | kernel_rfl); intro ws _ _))
          refine ret_row rfl rfl (n := 36) hsz rfl ⟨?_, stepN⟩
          have e : digZ (digs H k ++ lastD m (left H k)) = digitsS xs := by
            rw [HM.out, hk32.out, digZ, List.length_append, digs_len, lastD_len, digitsS, ← HH.out]
            simp
          rw [e]
set_option maxRecDepth 100000 in
set_option maxHeartbeats 800000 in
theorem rdigitsW_calls {A : Option Addr} {n c : Nat} {xs : List UInt8} {w : World} [HR w A (bs xs)] (hl : xs.length = n) (hn : n ≤ 140737488351232) :
    Calls Tryz.prog 63 #[.slice A n c] w fun e w' => e = .returned (.agg (i64s (digitsS xs))) ∧ Step nowhere w w' := by
  obtain ⟨H, hH⟩ : ∃ H, H = shaH xs := ⟨_, rfl⟩
  go_enter Tryz.func63, Tryz.ntmps63
  go_wp2_with (first | ((with_reducible apply (wpl_alloc (dst := some 2))); intro zo wzo _ _ _) | ((with_reducible apply (wpl_alloc (dst := some 3))); intro zd wzd _ _ _))
  refine (rsumW_calls (xs := xs) hl hn).mono ?_
  rintro e w4 ⟨rfl, _⟩
  rw [← hH]
  have HH := Lib.hid hH
  clear hH
  go_wp2_with (first | ((with_reducible apply (wpl_alloc (dst := some 4))); intro zh wzh _ _ _) | ((with_reducible apply wpl_storerow); (exact rfl); (exact rfl); infer_instance; infer_instance; (first | (with_reducible assumption) | (with_reducible exact H32.size _) | kernel_rfl); (first | (with_reducible assumption) | (with_reducible exact H32.size _) | kernel_rfl); (first | (with_reducible exact u8s_one _) | (with_reducible assumption) | kernel_rfl); intro ws _ _))
  go_loopw [5, 6] (fun less j wr => ∃ k : Nat, k ≤ 32 ∧ j = .int .i64 (k : Int) ∧ less = .int .i64 (left H k) ∧ Step nowhere w wr ∧ HB wr zo 123 (i64s (List.replicate 36 0)) ∧ HB wr zh 26 (u8s H.l) ∧ HB wr zd 123 (i64s (digZ (digs H k)))) (fun _ j _ => 32 - (intOf j).toNat)
  case atStart => exact ⟨0, by omega, rfl, rfl, stepN, inferInstance, inferInstance, (inferInstance : HB _ zd _ (i64s (List.replicate 36 0)))⟩
  case round =>
    obtain ⟨k, hk, rfl, rfl, _, _, _, _⟩ := hrel
    by_cases hlt : k < 32
    · have hdl := digs_len H k
      have hzl := digZ_len (digs H k) (by omega)
      have hkl : k < (digZ (digs H k)).length := by omega
      have hkI : (k : Int) < 36 := by omega
      have hk4 : k / 4 < H.l.length := by rw [H32.len_]; omega
      have hk4I : (k : Int) / 4 < 32 := by omega
      have hq := left_in H k
      obtain ⟨d, hd⟩ : ∃ d, d = digI (bget H.l (k / 4)) k := ⟨_, rfl⟩
      have hfold : bits BinOp.and IntKind.i64 (wrap64 (((bget H.l (k / 4)).toNat : Int) / 2 ^ (6 - 2 * (k % 4)))) 3 = d := hd.symm
      have hdi : 0 ≤ d ∧ d ≤ 3 := by rw [hd]; exact digI_in _ _
      have hget := iget_set (digZ (digs H k)) k d hkl
      have hkl2 : k < ((digZ (digs H k)).set k d).length := by rw [List.length_set]; exact hkl
      obtain ⟨hdi0, hdi3⟩ := hdi
      obtain ⟨hq0, hq1⟩ := hq
      have HD := Lib.hid hd
      clear hd
      go_wp2_with (first | ((with_reducible apply (wpl_loadint (t := 3))); (exact rfl); infer_instance; infer_instance; (first | (with_reducible assumption) | omega)) | ((with_reducible apply (wpl_loadbyte (t := 5))); (exact rfl); infer_instance; infer_instance; (first | (with_reducible assumption) | omega)) | ((with_reducible apply (wpl_storeint (t := 3))); (exact rfl); (exact rfl); infer_instance; (first | (with_reducible assumption) | omega); intro ws _ _))
      refine ⟨⟨k + 1, by omega, by go_num, ?_, stepN, inferInstance, inferInstance, ?_⟩, by simp [intOf]; omega⟩
      · rw [left, ← HD.out]; go_num
      · have e := digZ_set (digs H k) d (by omega)
        rw [hdl, HD.out, ← digs_snoc, ← HD.out] at e
        rw [← e]
        exact inferInstance
    · have hk32 : Hid (k = 32) := Lib.hid (by omega)
      have hge : 32 ≤ k := by omega
      have hq := left_in H k
      have hdl := digs_len H k
      go_wp2_with fail
      go_loopw [5, 7] (fun less j wr => ∃ m : Nat, m ≤ 4 ∧ j = .int .i64 (32 + (m : Int)) ∧ less = .int .i64 (left H k / 4 ^ m) ∧ Step nowhere w wr ∧ HB wr zo 123 (i64s (List.replicate 36 0)) ∧ HB wr zd 123 (i64s (digZ (digs H k ++ lastD m (left H k))))) (fun _ j _ => 36 - (intOf j).toNat)
      case atStart => exact ⟨0, by omega, rfl, by simp, stepN, inferInstance, by simp only [lastD, List.append_nil]; exact inferInstance⟩
      case round =>
        obtain ⟨m, hm, rfl, rfl, _, _, _⟩ := hrel
        have hll : (digs H k ++ lastD m (left H k)).length = 32 + m := by rw [List.length_append, digs_len, lastD_len]; omega
        have hzl := digZ_len (digs H k ++ lastD m (left H k)) (by omega)
        obtain ⟨hq0, hq1⟩ := hq
        obtain ⟨q, hqd⟩ : ∃ q, q = left H k / 4 ^ m := ⟨_, rfl⟩
        have hqin : 0 ≤ q ∧ q ≤ 96 := by
          rw [hqd]
          rcases (show m = 0 ∨ m = 1 ∨ m = 2 ∨ m = 3 ∨ m = 4 by omega) with rfl | rfl | rfl | rfl | rfl <;> omega
        obtain ⟨hqi0, hqi1⟩ := hqin
        have hand := and3 q hqi0 hqi1
        by_cases hlt : m < 4
        · have hkl : 32 + m < (digZ (digs H k ++ lastD m (left H k))).length := by omega
          have hkI : 32 + (m : Int) < 36 := by omega
          have hoff : (32 + (m : Int)).toNat = 32 + m := by omega
          have HQ := Lib.hid hqd
          rw [← HQ.out]
          clear hqd hdl
          have HLL := Lib.hid hll
          clear hll
          go_wp2_with (first | ((with_reducible apply (wpl_storeint (t := 3))); (exact rfl); (exact rfl); infer_instance; (first | (with_reducible assumption) | omega); intro ws _ _))
          refine ⟨⟨m + 1, by omega, by go_num, ?_, stepN, inferInstance, ?_⟩, by simp [intOf]; omega⟩
          · rw [HQ.out, Int.pow_succ, Int.ediv_ediv_of_nonneg (Int.pow_nonneg (by decide))]
          · have e := digZ_set (digs H k ++ lastD m (left H k)) (q % 4) (by have := HLL.out; omega)
            rw [HLL.out] at e
            have e2 : digs H k ++ lastD m (left H k) ++ [q % 4] = digs H k ++ lastD (m + 1) (left H k) := by rw [HQ.out, lastD, List.append_assoc]
            rw [← e2, ← e]
            exact inferInstance
        · have HM : Hid (m = 4) := Lib.hid (by omega)
          have hge4 : 4 ≤ m := by omega
          have hsz : (i64s (digZ (digs H k ++ lastD m (left H k)))).size = 36 := by rw [i64s_size]; exact hzl
          have h1c := i64s_one (digZ (digs H k ++ lastD m (left H k)))
          go_wp2_with (first | ((with_reducible apply wpl_loadrow); (exact rfl); infer_instance; infer_instance; (first | (with_reducible assumption) | (with_reducible exact H32.size _) | kernel_rfl)) | ((with_reducible apply wpl_storerow); (exact rfl); (exact rfl); infer_instance; infer_instance; (first | (with_reducible assumption) | (with_reducible exact H32.size _) | kernel_rfl); (first | (with_reducible assumption) | (with_reducible exact H32.size _) | kernel_rfl); (first | (with_reducible exact u8s_one _) | (with_reducible assumption) | kernel_rfl); intro ws _ _))
          refine ret_row rfl rfl (n := 36) hsz rfl ⟨?_, stepN⟩
          have e : digZ (digs H k ++ lastD m (left H k)) = digitsS xs := by
            rw [HM.out, hk32.out, digZ, List.length_append, digs_len, lastD_len, digitsS, ← HH.out]
            simp
          rw [e]
theorem rdigits_calls {A : Option Addr} {n c : Nat} {xs : List UInt8} {w : World} [HR w A (bs xs)] (hl : xs.length = n) (hn : n ≤ 100000) :
    Calls Tryz.prog 63 #[.slice A n c] w fun e w' => e = .returned (.agg (i64s (digitsS xs))) ∧ Step nowhere w w' := rdigitsW_calls hl (by omega)
end Go.Proofs.YtmnapacibpnodaaGreat
end
section
open Go Go.RowKit
namespace Go.Proofs.YtmnapacibpnodaaGreat
theorem iget_mem (l : List Int) (k : Nat) (h : k < l.length) : iget l k ∈ l := by
  simp [iget, List.getD_eq_getElem?_getD, List.getElem?_eq_getElem h]
theorem digitsS_len (xs : List UInt8) : (digitsS xs).length = 36 := by simp [digitsS, digs_len, lastD_len]
def publicS (seed : H32) (leaf : Int) : H32 := closedS (mapH (fun h i => walkS i 0 3 h) (secretsS seed leaf) 36)
def signS (seed : H32) (leaf : Int) (m : List UInt8) : List H32 := mapH (fun h i => walkS i 0 (iget (digitsS m) i) h) (secretsS seed leaf) 36
def recoverS (m : List UInt8) (l : List H32) : H32 := closedS (mapH (fun h i => walkS i (iget (digitsS m) i) 3 h) l 36)
instance iOtP_1 : ZeroT Tryz.prog 178 (i64s (List.replicate 36 0)) := ⟨.agg (i64s (List.replicate 36 0)), fun _ => by kernel_rfl, rfl⟩
instance iOtP_2 : RowT Tryz.prog 178 36 := ⟨by kernel_rfl, _, Tryz.underlying178, rfl⟩
set_option maxRecDepth 100000 in
set_option maxHeartbeats 800000 in
theorem public_calls (seed : H32) (leaf : Int) (w : World) :
    Calls Tryz.prog 86 #[.agg (u8s seed.l), .int .i64 leaf] w fun e w' => e = .returned (.agg (u8s (publicS seed leaf).l)) ∧ Step nowhere w w' := by
  go_enter Tryz.func86, Tryz.ntmps86
  go_wp2_with (first | ((with_reducible apply (wpl_box_agg (dst := some 2))); (exact rfl); intro zs wzs _ _ _) | ((with_reducible apply (wpl_alloc (dst := some 4))); intro zo wzo _ _ _) | ((with_reducible apply (wpl_alloc (dst := some 5))); intro zw wzw _ _ _) | ((with_reducible apply wpl_loadrow); (exact rfl); infer_instance; infer_instance; (first | (with_reducible assumption) | (with_reducible exact H32.size _) | kernel_rfl)))
  refine (secrets_calls seed leaf _).mono ?_
  rintro e w5 ⟨z, rfl, _, _, _⟩
  go_wp2_with fail
  refine (each_calls (l := secretsS seed leaf) (by simp [secretsS, mapH_len]) (Nat.le_refl _) 114 (fun _ _ => by kernel_rfl) #[.pointer (some ⟨zw, 0, none⟩)] #[] (fun h i => walkS i 0 3 h) (fun w' hw' h i hi => by
    have hs : Step nowhere _ w' := ⟨hw'.out⟩
    have e := toEnd_calls zw _ (List.replicate 36 0) rfl h i hi w'
    rw [iget_nots] at e
    exact e)).mono ?_
  rintro e w6 ⟨z2, rfl, _, _, _⟩
  go_wp2_with fail
  refine (closed_calls (l := mapH (fun h i => walkS i 0 3 h) (secretsS seed leaf) 36) (mapH_len _ _ _) (by decide)).mono ?_
  rintro e w7 ⟨rfl, _⟩
  go_wp2_with (first | ((with_reducible apply wpl_storerow); (exact rfl); (exact rfl); infer_instance; infer_instance; (first | (with_reducible assumption) | (with_reducible exact H32.size _) | kernel_rfl); (first | (with_reducible assumption) | (with_reducible exact H32.size _) | kernel_rfl); (first | (with_reducible exact u8s_one _) | (with_reducible assumption) | kernel_rfl); intro ws _ _))
  exact ret_row rfl rfl (n := 32) (H32.size _) rfl ⟨rfl, stepN⟩
theorem run_walker (ds : List Int) (hd : ds.length = 36) (w : World) : (Instr.build 178 #[(0, .agg (i64s ds))]).run Tryz.prog w = .ok (.agg (i64s ds)) w := by
  have hs : (i64s ds).size = 36 := by rw [i64s_size, hd]
  refine run_build_struct Tryz.underlying178 (zv := .agg (i64s (List.replicate 36 0))) (fun _ => by kernel_rfl) (places := #[(0, 36)]) (fun _ => by kernel_rfl) ?_ w
  show Instr.fill _ (i64s (List.replicate 36 0)) [(0, .agg (i64s ds))] = _
  rw [fill_step _ _ 0 (.agg (i64s ds)) [] (off := 0) (size := 36) rfl hs (by decide), lay_whole _ _ (by show (i64s ds).size = _; rw [hs]; rfl)]
  rfl
set_option maxRecDepth 100000 in
set_option maxHeartbeats 800000 in
theorem recoverW_calls {A B : Option Addr} {n c nl cl : Nat} {m : List UInt8} {l : List H32} {w : World} [HR w A (bs m)] [HR w B (cellsOf l)] (hl : m.length = n) (hc : n ≤ c) (hn : n ≤ 140737488351232) (hll : l.length = nl) :
    Calls Tryz.prog 118 #[.slice A n c, .slice B nl cl] w fun e w' => e = .returned (.tuple #[.agg (u8s (if nl = 36 then recoverS m l else zeroH).l), .bool (decide (nl = 36))]) ∧ Step nowhere w w' := by
  have hd := digitsS_len m
  have hsz : (i64s (digitsS m)).size = 36 := by rw [i64s_size, hd]
  have h1 := i64s_one (digitsS m)
  have kb := run_walker (digitsS m) hd
  by_cases h36 : nl = 36
  · have hb : ((nl : Int) != 36) = false := by simp; omega
    rw [if_pos h36, decide_eq_true h36]
    have hge36 : 36 ≤ nl := by omega
    clear h36
    go_enter Tryz.func118, Tryz.ntmps118
    go_wp2_with (first | ((with_reducible apply (wpl_alloc (dst := some 4))); intro zo wzo _ _ _))
    refine (digitsW_calls (xs := m) hl hc hn).mono ?_
    rintro e w4 ⟨rfl, _⟩
    go_wp2_with (first | ((with_reducible apply wpl_build); (exact kb _)) | ((with_reducible apply (wpl_alloc (dst := some 6))); intro zw wzw _ _ _) | ((with_reducible apply wpl_storerow); (exact rfl); (exact rfl); infer_instance; infer_instance; (first | (with_reducible assumption) | (with_reducible exact H32.size _) | kernel_rfl); (first | (with_reducible assumption) | (with_reducible exact H32.size _) | kernel_rfl); (first | (with_reducible exact u8s_one _) | (with_reducible assumption) | kernel_rfl); intro ws _ _))
    refine (each_calls (l := l) hll hge36 114 (fun _ _ => by kernel_rfl) #[.pointer (some ⟨zw, 0, none⟩)] #[] (fun h i => walkS i (iget (digitsS m) i) 3 h) (fun w' hw' h i hi => by
      have hs : Step nowhere _ w' := ⟨hw'.out⟩
      exact toEnd_calls zw _ (digitsS m) hd h i hi w')).mono ?_
    rintro e w6 ⟨z2, rfl, _, hA, _⟩
    go_wp2_with fail
    refine (closed_calls (l := mapH (fun h i => walkS i (iget (digitsS m) i) 3 h) l 36) (mapH_len _ _ _) (by decide)).mono ?_
    rintro e w7 ⟨rfl, _⟩
    go_wp2_with (first | ((with_reducible apply wpl_storerow); (exact rfl); (exact rfl); infer_instance; infer_instance; (first | (with_reducible assumption) | (with_reducible exact H32.size _) | kernel_rfl); (first | (with_reducible assumption) | (with_reducible exact H32.size _) | kernel_rfl); (first | (with_reducible exact u8s_one _) | (with_reducible assumption) | kernel_rfl); intro ws _ _))
    refine ret_row2 (g := zo) (b := true) rfl rfl (n := 32) (H32.size (recoverS m l)) rfl ?_ rfl
    exact ⟨rfl, stepN⟩
  · have hb : ((nl : Int) != 36) = true := by simp; omega
    have kb0 : ∀ w, (Instr.build 26 #[]).run Tryz.prog w = .ok (.agg (u8s zeroH.l)) w := fun _ => by kernel_rfl
    rw [if_neg h36, decide_eq_false h36]
    go_enter Tryz.func118, Tryz.ntmps118
    go_wp2_with (first | ((with_reducible apply wpl_build); (exact kb0 _)) | ((with_reducible apply (wpl_alloc (dst := some 4))); intro zo wzo _ _ _) | ((with_reducible apply wpl_storerow); (exact rfl); (exact rfl); infer_instance; infer_instance; (first | (with_reducible assumption) | (with_reducible exact H32.size _) | kernel_rfl); (first | (with_reducible assumption) | (with_reducible exact H32.size _) | kernel_rfl); (first | (with_reducible exact u8s_one _) | (with_reducible assumption) | kernel_rfl); intro ws _ _))
    refine ret_row2 (g := zo) (b := false) rfl rfl (n := 32) (H32.size zeroH) rfl ?_ rfl
    exact ⟨rfl, stepN⟩
theorem hget_secrets (seed : H32) (leaf : Int) (k : Nat) (h : k < 36) : hget (secretsS seed leaf) k = secretS seed leaf k := by
  simp [secretsS, mapH, hget, List.getD_eq_getElem?_getD, h]
end Go.Proofs.YtmnapacibpnodaaGreat
end
