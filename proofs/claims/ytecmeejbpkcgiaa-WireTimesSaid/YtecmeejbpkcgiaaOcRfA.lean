/- The reference's way of laying a number. -/
import Derived.Test.YtecmeejbpkcgiaaFr
import Derived.Test.YtecmeejbpkcgiaaOcW
open Go Go.RowKit
namespace Go.Proofs.Ytecmeejbpkcgiaa
theorem u8_or_128' (m : Nat) : Value.int .u8 (bits .or .u8 ((m : Int) % 128) 128) = u8v (UInt8.ofNat (m % 128 + 128)) := by
  have h := u8_or_128 (m % 128)
  rw [show (((m % 128 : Nat) : Int) % 256) = (m : Int) % 128 by omega, Nat.mod_mod] at h
  exact h
theorem u64_and127 (m : Nat) (h : m < 18446744073709551616) : bits .and .u64 (m : Int) 127 = ((m % 128 : Nat) : Int) := by
  rw [show (127 : Int) = ((127 : Nat) : Int) from rfl, u64_and_nat m 127 h (by decide), nat_mask7]
set_option maxRecDepth 100000 in
set_option maxHeartbeats 400000 in
theorem refNum_calls (v : Int) (w : World) :
    Calls Try.prog 69 #[.int .i64 v] w fun e w' => ∃ A n c, e = .returned (.slice A n c) ∧ Hid (Fresh w w' A n c (enc (clampN v))) := by
  have hle := clampN_le v
  have HLEN := Lib.hid (enc_len (clampN v) hle)
  have hcl : (v ≤ 0 ∧ clampN v = 0) ∨ ((0 < v ∧ v ≤ 4611686018427387904) ∧ (clampN v : Int) = v) ∨ (4611686018427387904 < v ∧ clampN v = 4611686018427387904) := by
    unfold clampN; omega
  obtain ⟨N, hN⟩ : ∃ N, N = clampN v := ⟨_, rfl⟩
  rw [← hN] at hcl hle HLEN ⊢
  have hN9 : N ≤ 9223372036854775807 := by omega
  clear hN hle
  rcases hcl with ⟨hv, hcl⟩ | ⟨⟨hv, hv2⟩, hcl⟩ | ⟨hv, hcl⟩
  all_goals
    have HCL := Lib.hid hcl
    clear hcl
    go_enter Try.func69, Try.ntmps69
    go_wp2_with fail
    go_loopw [3, 4] (fun t u wr => ∃ (m : Nat) (A1 : Option Addr) (n1 c1 : Nat) (pre : List UInt8), m ≤ N ∧ t = .int .u64 m ∧ u = .slice A1 n1 c1 ∧ Fresh w wr A1 n1 c1 pre ∧ pre ++ enc m = enc N) (fun t _ _ => (intOf t).toNat)
    case atStart => exact ⟨N, none, 0, 0, [], Nat.le_refl _, by have := HCL.out; first | (rw [this]; rfl) | (rw [this]; go_num) | (rw [← this]), rfl, Fresh.nil _, rfl⟩
    case round =>
      obtain ⟨m, A1, n1, c1, pre, hm, rfl, rfl, hfr, henc⟩ := hrel
      have hpre : pre.length ≤ 9 := by have h1 := congrArg List.length henc; have h2 := HLEN.out; simp at h1; omega
      have hm64 : m < 18446744073709551616 := by omega
      have HF := Lib.hid hfr
      have HENC := Lib.hid henc
      have HB : Hid (n1 + 1 ≤ lim) := hid_lim (by rw [hfr.len]; omega)
      have q1 := u64_and127 m hm64
      clear hfr henc hm64
      by_cases hlt : m < 128
      · have e1 : (m : Int) < 128 := by omega
        go_wp2_with (at_builtin; refine wpList_append_one rfl (.tmp 22) (.tmp 25) elemB rfl (Nat.le_refl _) rfl (HF.out.own.alloc _) rfl (Rd.lit _ [_] _) rfl HB ?_)
        intro A2 c2 w2 hown2 hchg2 hA2
        rw [u8_low m hlt, show bs pre ++ [u8v (UInt8.ofNat m)] = bs (pre ++ [UInt8.ofNat m]) by simp [bs]] at hown2
        have HP := Lib.hid (HF.out.push ((Chg.refl nowhere wr).alloc _) hchg2 hown2 (by rw [HF.out.len]; simp) (hA2.imp id fun h => ⟨_, h, by omega⟩))
        clear hown2 hchg2 hA2
        go_wp2_with fail
        go_ret
        refine ⟨A2, n1 + 1, c2, rfl, ?_⟩
        have := HENC.out
        rw [enc_small hlt] at this
        rw [← this]
        exact HP.out
      · have e1 : 128 ≤ (m : Int) := by omega
        go_wp2_with (at_builtin; refine wpList_append_one rfl (.tmp 13) (.tmp 18) elemB rfl (Nat.le_refl _) rfl (HF.out.own.alloc _) rfl (Rd.lit _ [_] _) rfl HB ?_)
        intro A2 c2 w2 hown2 hchg2 hA2
        rw [u8_or_128' m, show bs pre ++ [u8v (UInt8.ofNat (m % 128 + 128))] = bs (pre ++ [UInt8.ofNat (m % 128 + 128)]) by simp [bs]] at hown2
        have HP := Lib.hid (HF.out.push ((Chg.refl nowhere wr).alloc _) hchg2 hown2 (by rw [HF.out.len]; simp) (hA2.imp id fun h => ⟨_, h, by omega⟩))
        clear hown2 hchg2 hA2
        go_wp2_with fail
        have := HENC.out
        rw [enc_large hlt] at this
        exact ⟨⟨m / 128, A2, n1 + 1, c2, pre ++ [UInt8.ofNat (m % 128 + 128)], by omega, by go_num, rfl, HP.out, by rw [← this, List.append_assoc]; rfl⟩, by simp [intOf]; omega⟩
end Go.Proofs.Ytecmeejbpkcgiaa
