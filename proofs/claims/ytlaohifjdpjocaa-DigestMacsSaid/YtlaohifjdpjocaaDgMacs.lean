/- Digests under a key (the law DigestMacs). -/
import Derived.Test.YtlaohifjdpjocaaDgSums
import Derived.Test.YtlaohifjdpjocaaDgRM
open Go Go.RowKit
namespace Go.Proofs.Ytlaohifjdpjocaa
set_option maxRecDepth 100000 in
set_option maxHeartbeats 800000 in
theorem digestMacs_calls (A B : Option Addr) (n c m d : Nat) (key p : List UInt8) (w : World) (hr : Rd w A (bs key)) (hn : key.length = n) (hmax : n ≤ 140737488355328) (hr2 : Rd w B (bs p)) (hm : p.length = m) (hmax2 : m ≤ 140737488355328) :
    Calls Try.prog 5 #[.slice A n c, .slice B m d] w fun e w' => e = .returned (.bool true) ∧ Chg nowhere w w' := by
  have HR := Lib.hid hr
  have HN := Lib.hid hn
  have HR2 := Lib.hid hr2
  have HM := Lib.hid hm
  clear hr hn hr2 hm
  by_cases hbig : 1500 < n + m
  · have e1 : (1500 : Int) < (n : Int) + m := by omega
    go_enter Try.func5, Try.ntmps5
    go_wp2_with fail
    go_ret
    exact ⟨rfl, Chg.refl _ _⟩
  · have e1 : ¬ (1500 : Int) < (n : Int) + m := by omega
    have hn15 : n ≤ 1500 := by omega
    have hm15 : m ≤ 1500 := by omega
    clear hmax hmax2 hbig
    have hq : ∀ w, (binOp .eql 25 (.agg (u8s (macOf key p))) (.agg (u8s (macOf key p)))).run Try.prog w = .ok (.bool true) w := hash_same _ (macOf_len _ _)
    go_enter Try.func5, Try.ntmps5
    go_wp2_with fail
    refine (roomy_calls A n c key _ HR.out HN.out (by omega)).mono ?_
    rintro e w1 ⟨A1, c1, rfl, hF⟩
    have HC1 := Lib.hid hF.out.chg
    have HO1 := Lib.hid hF.out.own
    have hcap1 : n + 1 ≤ c1 := by rcases hF.out.own.form with ⟨_, h, _⟩ | ⟨_, _, _, _, h, _⟩ <;> omega
    clear hF
    go_wp2_with fail
    refine (roomy_calls B m d p _ (HR2.out.later HC1.out) HM.out (by omega)).mono ?_
    rintro e w2 ⟨A2, c2, rfl, hF⟩
    have HC2 : Hid (Chg nowhere w (World.drew w2)) := Lib.hid (HC1.out.step hF.out.chg (fun _ h => h.elim)).drew
    have HO1w := Lib.hid (HO1.out.chg hF.out.chg (fun _ _ h => h))
    have HO1' : Hid (Own (World.drew w2) 5 1 A1 (n + 1) c1 (bs (key ++ [171]))) := HO1w
    have HO2 : Hid (Own (World.drew w2) 5 1 A2 (m + 1) c2 (bs (p ++ [171]))) := Lib.hid hF.out.own
    have hcap2 : m + 1 ≤ c2 := by rcases hF.out.own.form with ⟨_, h, _⟩ | ⟨_, _, _, _, h, _⟩ <;> omega
    clear hF HO1 HO1w
    go_wp2_with fail
    refine wp_region_any (by kernel_rfl) ?_
    change wpAny _ _ _ _ _ _ _ (World.drew _)
    generalize World.drew w2 = w3 at *
    have HK1 : Hid (Rd w3 A1 (bs key)) := Lib.hid (by
      have h := HO1'.out.rd.take n
      rwa [bs_take, List.take_left' HN.out] at h)
    have HK2 : Hid (Rd w3 A2 (bs p)) := Lib.hid (by
      have h := HO2.out.rd.take m
      rwa [bs_take, List.take_left' HM.out] at h)
    have hl1 : n ≤ c1 := by omega
    have hl2 : m ≤ c2 := by omega
    have g1 : (n : Int) ≤ c1 := by omega
    have g2 : (m : Int) ≤ c2 := by omega
    refine wpAny_take (i := 0) (v := ?_) rfl (by kernel_rfl) (by kernel_rfl) (by kernel_rfl) (fun _ _ _ h => h) (Or.inl ⟨by rfl, ?_⟩) ?_
    rotate_left
    · intro w
      go_simp
      try with_reducible rfl
    refine wpAny_take (i := 1) (v := ?_) rfl (by kernel_rfl) (by kernel_rfl) (by kernel_rfl) (fun _ _ _ h => h) (Or.inl ⟨by rfl, ?_⟩) ?_
    rotate_left
    · intro w
      go_simp
      try with_reducible rfl
    refine wpAny_take (i := 2) (v := ?_) rfl (by kernel_rfl) (by kernel_rfl) (by kernel_rfl) (fun _ _ _ h => h) (Or.inl ⟨by rfl, ?_⟩) ?_
    rotate_left
    · intro w
      go_simp
      try with_reducible rfl
    refine wpAny_take (i := 4) (v := ?_) rfl (by kernel_rfl) (by kernel_rfl) (by kernel_rfl) (fun _ _ _ h => h) (Or.inl ⟨by rfl, ?_⟩) ?_
    rotate_left
    · intro w
      go_simp
      try with_reducible rfl
    refine wpAny_take (i := 5) (v := ?_) rfl (by kernel_rfl) (by kernel_rfl) (by kernel_rfl) (fun _ _ _ h => h) (Or.inl ⟨by rfl, ?_⟩) ?_
    rotate_left
    · intro w
      go_simp
      try with_reducible rfl
    refine wpAny_take (i := 6) (v := ?_) rfl (by kernel_rfl) (by kernel_rfl) (by kernel_rfl) (fun _ _ _ h => h) (Or.inl ⟨by rfl, ?_⟩) ?_
    rotate_left
    · intro w
      go_simp
      try with_reducible rfl
    refine wpAny_take (i := 9) (v := ?_) rfl (by kernel_rfl) (by kernel_rfl) (by kernel_rfl) (fun _ _ _ h => h) (Or.inl ⟨by rfl, ?_⟩) ?_
    rotate_left
    · intro w
      go_simp
      try with_reducible rfl
    refine wpAny_take (i := 10) (v := ?_) rfl (by kernel_rfl) (by kernel_rfl) (by kernel_rfl) (fun _ _ _ h => h) (Or.inl ⟨by rfl, ?_⟩) ?_
    rotate_left
    · intro w
      go_simp
      try with_reducible rfl
    refine wpAny_take (i := 3) (v := ?_) rfl (by kernel_rfl) (by kernel_rfl) (by kernel_rfl) (fun _ _ _ h => h) (Or.inl ⟨by rfl, ?_⟩) ?_
    rotate_left
    · intro w
      go_simp
      try with_reducible rfl
    refine wpAny_take (i := 7) (v := ?_) rfl (by kernel_rfl) (by kernel_rfl) (by kernel_rfl) (fun _ _ _ h => h) (Or.inl ⟨by rfl, ?_⟩) ?_
    rotate_left
    · intro w
      go_simp
      try with_reducible rfl
    refine wpAny_ready (rs := [8]) (by kernel_rfl) (by simp) ?_
    refine AllReady.cons rfl (fun K hK => ?_) AllReady.nil
    go_simp
    refine (mac_calls A1 A2 n c1 m c2 key p _ HK1.out HN.out hl1 (by omega) HK2.out HM.out (by omega)).mono ?_
    rintro e w4 ⟨rfl, h4⟩
    have HC4 := Lib.hid (HC2.out.step h4.out (fun _ h => h.elim))
    have HP1 := Lib.hid (HO1'.out.chg h4.out (fun _ _ h => h))
    have HP2 := Lib.hid (HO2.out.chg h4.out (fun _ _ h => h))
    clear h4
    refine hK _ _ ?_
    clear hK K
    refine wpAny_ready (rs := [11]) (by kernel_rfl) (by simp) ?_
    refine AllReady.cons rfl (fun K hK => ?_) AllReady.nil
    go_simp
    refine (refMac_calls A B n c m d key p _ (HR.out.later HC4.out) HN.out (by omega) (HR2.out.later HC4.out) HM.out (by omega)).mono ?_
    rintro e w5 ⟨rfl, h5⟩
    have HC5 := Lib.hid (HC4.out.step h5.out (fun _ h => h.elim))
    have HQ1 := Lib.hid (HP1.out.chg h5.out (fun _ _ h => h))
    have HQ2 := Lib.hid (HP2.out.chg h5.out (fun _ _ h => h))
    clear h5
    refine hK _ _ ?_
    clear hK K
    refine wpAny_take (i := 12) (v := ?_) rfl (by kernel_rfl) (by kernel_rfl) (by kernel_rfl) (fun _ _ _ h => h) (Or.inl ⟨by rfl, ?_⟩) ?_
    rotate_left
    · intro w
      go_simp
      try with_reducible rfl
    refine wpAny_take (i := 13) (v := ?_) rfl (by kernel_rfl) (by kernel_rfl) (by kernel_rfl) (fun _ _ _ h => h) (Or.inl ⟨by rfl, ?_⟩) ?_
    rotate_left
    · intro w
      go_simp
      try with_reducible rfl
    refine wpAny_take (i := 14) (v := ?_) rfl (by kernel_rfl) (by kernel_rfl) (by kernel_rfl) (fun _ _ _ h => h) (Or.inl ⟨by rfl, ?_⟩) ?_
    rotate_left
    · intro w
      go_simp
      try with_reducible rfl
    refine wpAny_take (i := 15) (v := ?_) rfl (by kernel_rfl) (by kernel_rfl) (by kernel_rfl) (fun _ _ _ h => h) (Or.inl ⟨by rfl, ?_⟩) ?_
    rotate_left
    · intro w
      go_simp
      try with_reducible rfl
    refine wpAny_ready (rs := [16]) (by kernel_rfl) (by simp) ?_
    refine AllReady.cons rfl (fun K hK => ?_) AllReady.nil
    go_simp
    refine (stands_calls A1 A n c1 c key _ HN.out (by omega) HQ1.out (HR.out.later HC5.out)).mono ?_
    rintro e w6 ⟨rfl, k6, rfl⟩
    have HC6 := Lib.hid (HC5.out.drewN k6)
    refine hK _ _ ?_
    clear hK K
    refine wpAny_take (i := 17) (v := ?_) rfl (by kernel_rfl) (by kernel_rfl) (by kernel_rfl) (fun _ _ _ h => h) (Or.inl ⟨by rfl, ?_⟩) ?_
    rotate_left
    · intro w
      go_simp
      try with_reducible rfl
    refine wpAny_take (i := 18) (v := ?_) rfl (by kernel_rfl) (by kernel_rfl) (by kernel_rfl) (fun _ _ _ h => h) (Or.inl ⟨by rfl, ?_⟩) ?_
    rotate_left
    · intro w
      go_simp
      try with_reducible rfl
    refine wpAny_take (i := 19) (v := ?_) rfl (by kernel_rfl) (by kernel_rfl) (by kernel_rfl) (fun _ _ _ h => h) (Or.inl ⟨by rfl, ?_⟩) ?_
    rotate_left
    · intro w
      go_simp
      try with_reducible rfl
    refine wpAny_take (i := 20) (v := ?_) rfl (by kernel_rfl) (by kernel_rfl) (by kernel_rfl) (fun _ _ _ h => h) (Or.inl ⟨by rfl, ?_⟩) ?_
    rotate_left
    · intro w
      go_simp
      try with_reducible rfl
    refine wpAny_ready (rs := [21]) (by kernel_rfl) (by simp) ?_
    refine AllReady.cons rfl (fun K hK => ?_) AllReady.nil
    go_simp
    refine (stands_calls A2 B m c2 d p _ HM.out (by omega) (HQ2.out.drewN k6) (HR2.out.later HC6.out)).mono ?_
    rintro e w7 ⟨rfl, k7, rfl⟩
    have HC7 := Lib.hid (HC6.out.drewN k7)
    refine hK _ _ ?_
    clear hK K
    refine wpAny_take (i := 22) (v := ?_) rfl (by kernel_rfl) (by kernel_rfl) (by kernel_rfl) (fun _ _ _ h => h) (Or.inl ⟨by rfl, ?_⟩) ?_
    rotate_left
    · intro w
      go_simp
      try with_reducible rfl
    refine wpAny_take (i := 23) (v := ?_) rfl (by kernel_rfl) (by kernel_rfl) (by kernel_rfl) (fun _ _ _ h => h) (Or.inl ⟨by rfl, ?_⟩) ?_
    rotate_left
    · intro w
      go_simp
      try with_reducible rfl
    refine wpAny_ready (rs := [24]) (by kernel_rfl) (by simp) ?_
    refine AllReady.cons rfl (fun K hK => ?_) AllReady.nil
    go_simp
    refine (known_calls _).mono ?_
    rintro e w8 ⟨rfl, h8⟩
    have h8' : Chg nowhere _ w8 := h8.out
    have HC8 : Hid (Chg nowhere w w8) := by
      have h := HC5.out.drewN (k6 + k7)
      first
        | exact Lib.hid (HC7.out.step h8' (fun _ h => False.elim h))
        | exact Lib.hid (h.step h8' (fun _ h => False.elim h))
    clear h8
    refine hK _ _ ?_
    clear hK K
    refine wpAny_take (i := 25) (v := ?_) rfl (by kernel_rfl) (by kernel_rfl) (by kernel_rfl) (fun _ _ _ h => h) (Or.inl ⟨by rfl, ?_⟩) ?_
    rotate_left
    · intro w
      go_simp
      try with_reducible rfl
    refine wpAny_take (i := 26) (v := ?_) rfl (by kernel_rfl) (by kernel_rfl) (by kernel_rfl) (fun _ _ _ h => h) (Or.inl ⟨by rfl, ?_⟩) ?_
    rotate_left
    · intro w
      go_simp
      try with_reducible rfl
    refine wpAny_done (by kernel_rfl) ?_ _
    go_wp2_with fail
    go_ret
    exact ⟨rfl, HC8.out⟩
end Go.Proofs.Ytlaohifjdpjocaa
