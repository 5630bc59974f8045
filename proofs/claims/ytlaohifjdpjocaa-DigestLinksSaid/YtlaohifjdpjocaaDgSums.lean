/- The digest of bytes (the law DigestSums). -/
import Derived.Test.YtlaohifjdpjocaaDgLaw
import Derived.Test.YtlaohifjdpjocaaDgRS
open Go Go.RowKit
namespace Go.Proofs.Ytlaohifjdpjocaa
theorem hash_same (xs : List UInt8) (hx : xs.length = 32) (w : World) : (binOp .eql 25 (.agg (u8s xs)) (.agg (u8s xs))).run Try.prog w = .ok (.bool true) w := by
  rw [hash_eql xs xs hx hx w, beq_self_eq_true]
set_option maxRecDepth 100000 in
set_option maxHeartbeats 800000 in
theorem digestSums_calls (A : Option Addr) (n c : Nat) (p : List UInt8) (w : World) (hr : Rd w A (bs p)) (hn : p.length = n) (hmax : n ≤ 9223372036854775807) :
    Calls Try.prog 3 #[.slice A n c] w fun e w' => e = .returned (.bool true) ∧ Chg nowhere w w' := by
  have HR := Lib.hid hr
  have HN := Lib.hid hn
  clear hr hn
  go_enter Try.func3, Try.ntmps3
  by_cases hbig : 1500 < n
  · have e1 : (1500 : Int) < n := by omega
    go_wp2_with fail
    go_ret
    exact ⟨rfl, Chg.refl _ _⟩
  · have e1 : ¬ (1500 : Int) < n := by omega
    have hn15 : n ≤ 1500 := by omega
    go_wp2_with fail
    refine (roomy_calls A n c p _ HR.out HN.out (by omega)).mono ?_
    rintro e w1 ⟨A1, c1, rfl, hF⟩
    have HF := Lib.hid hF.out
    have HRM : Hid (Rd w1 A1 (bs p)) := Lib.hid (by
      have h := hF.out.own.rd.take n
      rwa [bs_take, List.take_left' HN.out] at h)
    have hcap : n + 1 ≤ c1 := by rcases hF.out.own.form with ⟨_, h, _⟩ | ⟨_, _, _, _, h, _⟩ <;> omega
    clear hF
    go_wp2_with fail
    refine (dSum_calls A1 n c1 p _ HRM.out HN.out (by omega) (by omega)).mono ?_
    rintro e w2 ⟨rfl, h2⟩
    have hq : ∀ w, (binOp .eql 25 (.agg (u8s (sha p))) (.agg (u8s (sha p)))).run Try.prog w = .ok (.bool true) w := hash_same _ (sha_len _)
    have HC2 := Lib.hid (HF.out.chg.step h2.out (fun _ h => h.elim))
    have HO2 := Lib.hid (HF.out.own.chg h2.out (fun _ _ h => h))
    clear h2
    go_wp2_with fail
    refine (dRefSum_calls A n c p _ (HR.out.later HC2.out) HN.out (by omega)).mono ?_
    rintro e w3 ⟨rfl, h3⟩
    have HC3 := Lib.hid (HC2.out.step h3.out (fun _ h => h.elim))
    have HO3 := Lib.hid (HO2.out.chg h3.out (fun _ _ h => h))
    clear h3
    go_wp2_with fail
    refine (stands_calls A1 A n c1 c p _ HN.out (by omega) HO3.out (HR.out.later HC3.out)).mono ?_
    rintro e w4 ⟨rfl, k4, rfl⟩
    have HC4 := Lib.hid (HC3.out.drewN k4)
    go_wp2_with fail
    refine (known_calls _).mono ?_
    rintro e w5 ⟨rfl, h5⟩
    have HC5 := Lib.hid (HC4.out.step h5.out (fun _ h => h.elim))
    go_wp2_with fail
    go_ret
    exact ⟨rfl, HC5.out⟩
end Go.Proofs.Ytlaohifjdpjocaa
