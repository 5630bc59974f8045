/- The reference's way of laying numbers. -/
import Derived.Test.YtecmeejbpkcgiaaOcRfA
open Go Go.RowKit
namespace Go.Proofs.Ytecmeejbpkcgiaa
set_option maxRecDepth 100000 in
set_option maxHeartbeats 400000 in
theorem refNums_calls (A : Option Addr) (n c : Nat) (vs : List Int) (w : World) (hr : Rd w A (is64 vs)) (hn : vs.length = n) (hx : n ≤ 1000000000) :
    Calls Try.prog 51 #[.slice A n c] w fun e w' => ∃ A' n' c', e = .returned (.slice A' n' c') ∧ Hid (Fresh w w' A' n' c' (encAll vs)) := by
  have HR := Lib.hid hr
  have HN := Lib.hid hn
  have hn9 : n ≤ 9223372036854775807 := by omega
  have HX := Lib.hid hx
  clear hr hn hx
  go_enter Try.func51, Try.ntmps51
  go_wp2_with fail
  go_loopw [3, 4] (fun u t wr => ∃ (k : Nat) (A1 : Option Addr) (n1 c1 : Nat), k ≤ n ∧ t = .int .i64 k ∧ u = .slice A1 n1 c1 ∧ Fresh w wr A1 n1 c1 (encAll (vs.take k))) (fun _ t _ => n - (intOf t).toNat)
  case atStart => exact ⟨0, none, 0, 0, Nat.zero_le _, rfl, rfl, Fresh.nil _⟩
  case round =>
    obtain ⟨k, A1, n1, c1, hk, rfl, rfl, hfr⟩ := hrel
    have HF := Lib.hid hfr
    clear hfr
    by_cases hlt : k < n
    · have e1 : (k : Int) < n := by omega
      have hkv : k < vs.length := by have := HN.out; omega
      obtain ⟨ad, rfl, hc⟩ := (HR.out.later HF.out.chg) k (.int .i64 vs[k]) (by simp [is64, hkv])
      have hsn := encAll_snoc (vs.take k) vs[k]
      rw [List.take_append_getElem hkv] at hsn
      have hl1 := encAll_len (vs.take k)
      rw [List.length_take] at hl1
      generalize vs[k] = v at hc hsn
      have HSN := Lib.hid hsn
      have HL1 := Lib.hid hl1
      clear hkv hsn hl1
      go_wp2_with fail
      refine (refNum_calls v _).mono ?_
      rintro e w1 ⟨A2, n2, c2, rfl, h2⟩
      have HM : Hid ((bs (enc (clampN v))).length = n2) := Lib.hid (by rw [bs_length]; exact h2.out.len.symm)
      have HB : Hid (n1 + n2 ≤ lim) := hid_lim (by
        have h3 := HF.out.len
        have h4 := h2.out.len
        have h5 := HL1.out
        have h6 := enc_len _ (clampN_le v)
        have h7 := HX.out
        omega)
      have HO : Hid (Own w1 5 1 A1 n1 c1 (bs (encAll (vs.take k)))) := Lib.hid (HF.out.own.chg h2.out.chg (fun _ _ h => h))
      go_wp2_with (at_builtin; refine wpList_append_many rfl (.tmp 11) (.tmp 16) elemB rfl (Nat.le_refl _) rfl HO.out rfl h2.out.rd HM (bs_one _) HB ?_)
      intro A3 c3 w3 hown3 hchg3 hA3
      rw [bs_append] at hown3
      have HP := Lib.hid (HF.out.push h2.out.chg hchg3 hown3 (by rw [HF.out.len, h2.out.len]; simp) (hA3.imp id fun h => ⟨_, h, h2.out.chg.size⟩))
      clear hown3 hchg3 hA3
      go_wp2_with fail
      exact ⟨⟨k + 1, A3, n1 + n2, c3, by omega, by go_num, rfl, by rw [HSN.out]; exact HP.out⟩, by simp [intOf]; omega⟩
    · have e1 : (n : Int) ≤ k := by omega
      go_wp2_with fail
      go_ret
      refine ⟨A1, n1, c1, rfl, ?_⟩
      have := HF.out
      rwa [List.take_of_length_le (by have := HN.out; omega)] at this
end Go.Proofs.Ytecmeejbpkcgiaa
