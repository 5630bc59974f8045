/- The reference's way of laying a row. -/
import Derived.Test.YtecmeejbpkcgiaaOcRfA
open Go Go.RowKit
namespace Go.Proofs.Ytecmeejbpkcgiaa
set_option maxRecDepth 100000 in
set_option maxHeartbeats 400000 in
theorem refBytes_calls (A : Option Addr) (n c : Nat) (xs : List UInt8) (w : World) (hr : Rd w A (bs xs)) (hn : xs.length = n) (hx : n ≤ 1000000000) :
    Calls Try.prog 84 #[.slice A n c] w fun e w' => ∃ A' n' c', e = .returned (.slice A' n' c') ∧ Hid (Fresh w w' A' n' c' (encRow xs)) := by
  have HR := Lib.hid hr
  have HN := Lib.hid hn
  have hn9 : n ≤ 9223372036854775807 := by omega
  have HX := Lib.hid hx
  have HM : Hid ((bs xs).length = n) := Lib.hid (by rw [bs_length]; exact hn)
  clear hr hn hx
  go_enter Try.func84, Try.ntmps84
  go_wp2_with fail
  refine (refNum_calls (n : Int) _).mono ?_
  rintro e w1 ⟨A2, n2, c2, rfl, h2⟩
  have hcl : clampN (n : Int) = xs.length := by rw [HN.out]; exact clampN_nat n (by have := HX.out; omega)
  rw [hcl] at h2
  have HB : Hid (n2 + n ≤ lim) := hid_lim (by
    have h4 := h2.out.len
    have h6 := enc_len xs.length (by rw [HN.out]; have := HX.out; omega)
    have h7 := HX.out
    omega)
  clear hcl
  go_wp2_with (at_builtin; refine wpList_append_many rfl (.tmp 5) (.tmp 6) elemB rfl (Nat.le_refl _) rfl h2.out.own rfl (HR.out.later h2.out.chg) HM (bs_one _) HB ?_)
  intro A3 c3 w3 hown3 hchg3 hA3
  rw [bs_append] at hown3
  have HP := Lib.hid (h2.out.push (Chg.refl nowhere _) hchg3 hown3 (by rw [h2.out.len, ← HN.out]; simp) (hA3.imp id fun h => ⟨_, h, Nat.le_refl _⟩))
  clear hown3 hchg3 hA3
  go_wp2_with fail
  go_ret
  exact ⟨A3, n2 + n, c3, rfl, HP⟩
end Go.Proofs.Ytecmeejbpkcgiaa
