/- CkB -/
import Derived.Test.YtcgbgeheiklhhaaGreatTfCkA
import Derived.Test.YtcgbgeheiklhhaaGreatTfQmR
import Derived.Test.YtcgbgeheiklhhaaGreatTfKyE
open Go Go.RowKit
namespace Go.Proofs.YtcgbgeheiklhhaaGreat
instance : ZeroT Tryz.prog 39 #[.slice none 0 0, .slice none 0 0] := ⟨.agg #[.slice none 0 0, .slice none 0 0], fun _ => by kernel_rfl, rfl⟩
instance : CellT Tryz.prog 52 := ⟨fun _ => by kernel_rfl, fun _ => by kernel_rfl⟩
theorem ckNumber_calls (n : Int) (w : World) : Calls Tryz.prog 16 #[.int .i64 n] w fun e w' => e = .returned (.bool (numC n)) ∧ Step nowhere w w' := by
  by_cases h1 : 0 ≤ n
  · by_cases h2 : n ≤ 1073741824
    · have e : numC n = true := by simp [numC, h1, h2]
      rw [e]
      clear e
      go_enter Tryz.func16, Tryz.ntmps16
      go_wp2_with fail
      go_ret
      exact ⟨rfl, stepN⟩
    · have e : numC n = false := by simp [numC, h2]
      rw [e]
      clear e
      go_enter Tryz.func16, Tryz.ntmps16
      go_wp2_with fail
      go_ret
      exact ⟨rfl, stepN⟩
  · have e : numC n = false := by simp [numC, h1]
    rw [e]
    clear e
    go_enter Tryz.func16, Tryz.ntmps16
    go_wp2_with fail
    go_ret
    exact ⟨rfl, stepN⟩
set_option maxRecDepth 100000 in
theorem ckNew_calls (seed : H32) (w : World) :
    Calls Tryz.prog 4 #[.agg (u8s seed.l)] w fun e w' => ∃ zc zk, e = .returned (.pointer (some ⟨zc, 0, none⟩)) ∧ Step nowhere w w' ∧ NewB w zc ∧ NewB w zk ∧ HB w' zc 55 #[.pointer (some ⟨zk, 0, none⟩)] ∧ KeyAt w' zk seed 0 ∧ OffB (only zk) zc := by
  have kb : ∀ (g : Nat) w, (Instr.build 55 #[(0, .pointer (some ⟨g, 0, none⟩))]).run Tryz.prog w = .ok (.agg #[.pointer (some ⟨g, 0, none⟩)]) w := fun _ _ => by kernel_rfl
  go_enter Tryz.func4, Tryz.ntmps4
  go_wp2_with (first | ((with_reducible apply (wpl_box_agg (dst := some 1))); (exact rfl); intro zs wzs _ _ _) | ((with_reducible apply wpl_loadrow); (exact rfl); infer_instance; infer_instance; (first | (with_reducible assumption) | (with_reducible exact H32.size _) | kernel_rfl)))
  refine (new_calls seed 0 _).mono ?_
  rintro e w1 ⟨zk, rfl, _, hnk, hk⟩
  have hk0 : KeyAt w1 zk seed 0 := by rwa [show min (max (0 : Int) 0) 16 = 0 by decide] at hk
  clear hk
  have n1 : Nw w w1 := inferInstance
  have hkz : NewB w zk := ⟨by
    have h1 := hnk.out
    have h2 := (stepN (w0 := w) (w := wzs)).chg.size
    omega⟩
  go_wp2_with (first | ((with_reducible apply wpl_build); (exact kb _ _)) | ((with_reducible apply (wpl_box_agg (dst := some 6))); (exact rfl); intro zc wzc _ _ _))
  have hcn : NewB w zc := ⟨by
    have h1 := (inferInstance : Born w1 zc).eq
    have h2 := n1.out.size
    omega⟩
  have ho : OffB (only zk) zc := ⟨fun e => by
    have e' : zc = zk := e
    have h1 := (inferInstance : Born w1 zc).eq
    have h2 := hk0.lt
    omega⟩
  go_ret
  exact ⟨zc, zk, rfl, stepN, hcn, hkz, inferInstance, inferInstance, ho⟩
section
variable {zc zk : Nat} {seed : H32} {used : Int} {w : World}
set_option maxRecDepth 100000 in
theorem ckPublic_calls [hz : HB w zc 55 #[.pointer (some ⟨zk, 0, none⟩)]] [hk : KeyAt w zk seed used] :
    Calls Tryz.prog 6 #[.pointer (some ⟨zc, 0, none⟩)] w fun e w' => e = .returned (.agg (u8s (pubS seed).l)) ∧ Step (only zk) w w' ∧ KeyAt w' zk seed used := by
  obtain ⟨N, hN⟩ : ∃ N, N = pubS seed := ⟨_, rfl⟩
  have HN := Lib.hid hN
  rw [← hN]
  clear hN
  go_enter Tryz.func6, Tryz.ntmps6
  go_wp2_with (first | ((with_reducible apply (wpl_alloc (dst := some 2))); intro zo wzo _ _ _) | ((with_reducible apply wpl_loadcellN); (exact rfl); infer_instance; (exact rfl)))
  refine (kpublic_calls (zk := zk)).mono ?_
  rw [← HN.out]
  rintro e w1 ⟨rfl, _, _⟩
  go_wp2_with (first | ((with_reducible apply wpl_storerow); (exact rfl); (exact rfl); infer_instance; infer_instance; (first | (with_reducible assumption) | (with_reducible exact H32.size _) | kernel_rfl); (first | (with_reducible assumption) | (with_reducible exact H32.size _) | kernel_rfl); (first | (with_reducible exact u8s_one _) | (with_reducible assumption) | kernel_rfl); intro ws _ _))
  exact ret_row rfl rfl (n := 32) (H32.size _) rfl ⟨rfl, stepC, inferInstance⟩
set_option maxRecDepth 100000 in
theorem attest_no (nonce now : Int) [_hz : HB w zc 55 #[.pointer (some ⟨zk, 0, none⟩)]] (h : (numC nonce && numC now) = false) :
    Calls Tryz.prog 7 #[.pointer (some ⟨zc, 0, none⟩), .int .i64 nonce, .int .i64 now] w fun e w' => e = .returned (.tuple #[.agg #[.slice none 0 0, .slice none 0 0], .int .i64 1]) ∧ Step nowhere w w' := by
  have kb0 : ∀ w, (Instr.build 39 #[]).run Tryz.prog w = .ok (.agg #[.slice none 0 0, .slice none 0 0]) w := fun _ => by kernel_rfl
  obtain ⟨a, ha⟩ : ∃ a, a = numC nonce := ⟨_, rfl⟩
  obtain ⟨b, hb⟩ : ∃ b, b = numC now := ⟨_, rfl⟩
  rw [← ha, ← hb] at h
  have HA := Lib.hid ha
  have HB := Lib.hid hb
  clear ha hb
  go_enter Tryz.func7, Tryz.ntmps7
  go_wp2_with (first | ((with_reducible apply (wpl_guard (op := .call _))); (exact rfl)) | ((with_reducible apply (wpl_alloc (dst := some 6))); intro zo wzo _ _ _))
  refine (ckNumber_calls nonce _).mono ?_
  rw [← HA.out]
  rintro e w1 ⟨rfl, _⟩
  cases a with
  | false =>
    go_wp2_with (first | ((with_reducible apply wpl_build); (exact kb0 _)) | ((with_reducible apply wpl_storerow); (exact rfl); (exact rfl); infer_instance; infer_instance; (first | (with_reducible assumption) | (with_reducible exact H32.size _) | kernel_rfl); (first | (with_reducible assumption) | (with_reducible exact H32.size _) | kernel_rfl); (first | (with_reducible exact u8s_one _) | (with_reducible assumption) | kernel_rfl); intro ws _ _))
    exact ret_row_ rfl rfl rfl (n := 2) rfl rfl ⟨rfl, stepN⟩
  | true =>
    obtain rfl : b = false := by simpa using h
    clear h
    go_wp2_with (first | ((with_reducible apply (wpl_guard (op := .call _))); (exact rfl)))
    refine (ckNumber_calls now _).mono ?_
    rw [← HB.out]
    rintro e w2 ⟨rfl, _⟩
    go_wp2_with (first | ((with_reducible apply wpl_build); (exact kb0 _)) | ((with_reducible apply wpl_storerow); (exact rfl); (exact rfl); infer_instance; infer_instance; (first | (with_reducible assumption) | (with_reducible exact H32.size _) | kernel_rfl); (first | (with_reducible assumption) | (with_reducible exact H32.size _) | kernel_rfl); (first | (with_reducible exact u8s_one _) | (with_reducible assumption) | kernel_rfl); intro ws _ _))
    exact ret_row_ rfl rfl rfl (n := 2) rfl rfl ⟨rfl, stepN⟩
end
end Go.Proofs.YtcgbgeheiklhhaaGreat
