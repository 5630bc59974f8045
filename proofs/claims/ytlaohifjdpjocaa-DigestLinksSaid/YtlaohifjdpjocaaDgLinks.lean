/- Digests that go on (the law DigestLinks). -/
import Derived.Test.YtlaohifjdpjocaaDgSums
import Derived.Test.YtlaohifjdpjocaaDgL
import Derived.Test.YtlaohifjdpjocaaDgRX
import Derived.Deep.RegionHeld
open Go Go.RowKit
namespace Go.Proofs.Ytlaohifjdpjocaa
theorem own_lt {w : World} {A : Option Addr} {n c : Nat} {xs : List Value} (h : Own w 5 1 A n c xs) : ∀ ad, A = some ad → ad.block < w.heap.size := fun ad e => by
  rcases h.form with ⟨h1, _⟩ | ⟨g, cur, h1, hb, _⟩
  · rw [h1] at e
    cases e
  · rw [h1] at e
    injection e with e
    subst e
    exact hb.lt
set_option maxRecDepth 100000 in
set_option maxHeartbeats 1600000 in
theorem digestLinks_calls (hs : List UInt8) (A : Option Addr) (n c : Nat) (p : List UInt8) (w : World) (hh : hs.length = 32) (hr : Rd w A (bs p)) (hn : p.length = n) (hmax : n ≤ 9223372036854775807) :
    Calls Try.prog 4 #[.agg (u8s hs), .slice A n c] w fun e w' => e = .returned (.bool true) ∧ Chg nowhere w w' := by
  have HH := Lib.hid hh
  have HR := Lib.hid hr
  have HN := Lib.hid hn
  clear hh hr hn
  by_cases hbig : 1500 < n
  · have e1 : (1500 : Int) < n := by omega
    go_enter Try.func4, Try.ntmps4
    go_wp2_with fail
    go_ret
    exact ⟨rfl, (Chg.refl _ _).alloc _⟩
  · have e1 : ¬ (1500 : Int) < n := by omega
    have hn15 : n ≤ 1500 := by omega
    clear hmax hbig
    have hq : ∀ w, (binOp .eql 25 (.agg (u8s (sha (hs ++ p)))) (.agg (u8s (sha (hs ++ p))))).run Try.prog w = .ok (.bool true) w := hash_same _ (sha_len _)
    go_enter Try.func4, Try.ntmps4
    go_wp2_with fail
    refine (roomy_calls A n c p _ (HR.out.alloc _) HN.out (by omega)).mono ?_
    rintro e w1 ⟨A1, c1, rfl, hF⟩
    have HC1 : Hid (Chg nowhere w (World.drew w1)) := Lib.hid ((((Chg.refl _ w).alloc _).step hF.out.chg (fun _ h => h.elim)).drew)
    have HO1 : Hid (Own (World.drew w1) 5 1 A1 (n + 1) c1 (bs (p ++ [171]))) := Lib.hid hF.out.own
    have hcap1 : n + 1 ≤ c1 := by rcases hF.out.own.form with ⟨_, h, _⟩ | ⟨_, _, _, _, h, _⟩ <;> omega
    have hSw := Lib.hid ((Blk.new w 25 (u8s hs)).chg hF.out.chg (fun h => h))
    have hS : Hid (Blk (World.drew w1) w.heap.size 25 (u8s hs)) := hSw
    clear hF hSw
    go_wp2_with fail
    refine wp_region_held_drew (S := fun w' => Blk w' w.heap.size 25 (u8s hs)) (by kernel_rfl) hS.out (fun _ => ?_)
    change wpAnyH _ _ _ _ _ _ _ _ (World.drew _)
    generalize World.drew w1 = w3 at *
    have HRANGE : Hid (∀ w', Blk w' w.heap.size 25 (u8s hs) → w'.rangeAt w.heap.size 0 (bs hs)) := Lib.hid (fun w' h j v hv => by
      rw [Nat.zero_add, h.cell]
      simpa [u8s] using hv)
    have HUND := Lib.hid Try.underlying25
    have HINF : Hid ((Try.prog.info? 25).map (·.size) = some (bs hs).length) := Lib.hid (by rw [bs_length, HH.out]; kernel_rfl)
    have HK1 : Hid (Rd w3 A1 (bs p)) := Lib.hid (by
      have h := HO1.out.rd.take n
      rwa [bs_take, List.take_left' HN.out] at h)
    have hl1 : n ≤ c1 := by omega
    have HNIL : Hid (A = none → n = 0) := Lib.hid (fun e => by
      have h := HR.out
      rw [e] at h
      rcases hp : p with _ | ⟨x, q⟩
      · have h1 := HN.out
        rw [hp] at h1
        simpa using h1.symm
      · rw [hp] at h
        obtain ⟨ad, h', _⟩ := h 0 _ rfl
        cases h')
    have g1 : (n : Int) ≤ c1 := by omega
    refine' wpAnyH_take (i := 0) (v := _) rfl (by kernel_rfl) (by kernel_rfl) (by kernel_rfl) (fun _ _ _ h => h) (yieldsIf_load_mid (by rfl) _ _ rfl _ _ rfl (bs hs) _ HRANGE.out HUND.out rfl HINF.out) hS.out ?_
    refine' wpAnyH_take (i := 6) (v := _) rfl (by kernel_rfl) (by kernel_rfl) (by kernel_rfl) (fun _ _ _ h => h) (yieldsIf_load_mid (by rfl) _ _ rfl _ _ rfl (bs hs) _ HRANGE.out HUND.out rfl HINF.out) hS.out ?_
    refine wpAnyH_take (i := 1) (v := ?_) rfl (by kernel_rfl) (by kernel_rfl) (by kernel_rfl) (fun _ _ _ h => h) (Or.inl ⟨by rfl, ?_⟩) hS.out ?_
    rotate_left
    · intro w _
      go_simp
      try with_reducible rfl
    refine wpAnyH_take (i := 2) (v := ?_) rfl (by kernel_rfl) (by kernel_rfl) (by kernel_rfl) (fun _ _ _ h => h) (Or.inl ⟨by rfl, ?_⟩) hS.out ?_
    rotate_left
    · intro w _
      go_simp
      try with_reducible rfl
    refine wpAnyH_take (i := 3) (v := ?_) rfl (by kernel_rfl) (by kernel_rfl) (by kernel_rfl) (fun _ _ _ h => h) (Or.inl ⟨by rfl, ?_⟩) hS.out ?_
    rotate_left
    · intro w _
      go_simp
      try with_reducible rfl
    refine wpAnyH_take (i := 7) (v := ?_) rfl (by kernel_rfl) (by kernel_rfl) (by kernel_rfl) (fun _ _ _ h => h) (Or.inl ⟨by rfl, ?_⟩) hS.out ?_
    rotate_left
    · intro w _
      go_simp
      try with_reducible rfl
    refine wpAnyH_take (i := 4) (v := ?_) rfl (by kernel_rfl) (by kernel_rfl) (by kernel_rfl) (fun _ _ _ h => h) (Or.inl ⟨by rfl, ?_⟩) hS.out ?_
    rotate_left
    · intro w _
      go_simp
      try with_reducible rfl
    refine wpAnyH_ready (rs := [5]) (by kernel_rfl) (by simp) ?_
    refine AllReadyH.cons rfl (fun K hK => ?_) AllReadyH.nil
    go_simp
    refine (link_calls hs A1 n c1 p _ HH.out HK1.out HN.out (by omega)).mono ?_
    rintro e w4 ⟨rfl, h4⟩
    have HC4 := Lib.hid (HC1.out.step h4.out (fun _ h => h.elim))
    have HO4 := Lib.hid (HO1.out.chg h4.out (fun _ _ h => h))
    replace hS := Lib.hid (hS.out.chg h4.out (fun h => h))
    clear h4
    refine hK.out _ _ hS.out (fun _ => ?_)
    clear hK K
    refine wpAnyH_ready (rs := [8]) (by kernel_rfl) (by simp) ?_
    refine AllReadyH.cons rfl (fun K hK => ?_) AllReadyH.nil
    go_simp
    refine (refLink_calls hs A n c p _ HH.out (HR.out.later HC4.out) HN.out (by omega)).mono ?_
    rintro e w5 ⟨rfl, h5⟩
    have HC5 := Lib.hid (HC4.out.step h5.out (fun _ h => h.elim))
    have HO5 := Lib.hid (HO4.out.chg h5.out (fun _ _ h => h))
    replace hS := Lib.hid (hS.out.chg h5.out (fun h => h))
    clear h5
    refine hK.out _ _ hS.out (fun _ => ?_)
    clear hK K
    refine wpAnyH_take (i := 9) (v := ?_) rfl (by kernel_rfl) (by kernel_rfl) (by kernel_rfl) (fun _ _ _ h => h) (Or.inl ⟨by rfl, ?_⟩) hS.out ?_
    rotate_left
    · intro w _
      go_simp
      try with_reducible rfl
    refine wpAnyH_take (i := 10) (v := ?_) rfl (by kernel_rfl) (by kernel_rfl) (by kernel_rfl) (fun _ _ _ h => h) (Or.inl ⟨by rfl, ?_⟩) hS.out ?_
    rotate_left
    · intro w _
      go_simp
      try with_reducible rfl
    refine' wpAnyH_take (i := 11) (v := _) rfl (by kernel_rfl) (by kernel_rfl) (by kernel_rfl) (fun _ _ _ h => h) (yieldsIf_load_mid (by rfl) _ _ rfl _ _ rfl (bs hs) _ HRANGE.out HUND.out rfl HINF.out) hS.out ?_
    refine wpAnyH_take (i := 12) (v := ?_) rfl (by kernel_rfl) (by kernel_rfl) (by kernel_rfl) (fun _ _ _ h => h) (Or.inl ⟨by rfl, ?_⟩) hS.out ?_
    rotate_left
    · intro w _
      go_simp
      try with_reducible rfl
    refine wpAnyH_take (i := 15) (v := ?_) rfl (by kernel_rfl) (by kernel_rfl) (by kernel_rfl) (fun _ _ _ h => h) (Or.inl ⟨by rfl, ?_⟩) hS.out ?_
    rotate_left
    · intro w _
      go_simp
      try with_reducible rfl
    refine wpAnyH_take (i := 17) (v := ?_) rfl (by kernel_rfl) (by kernel_rfl) (by kernel_rfl) (fun _ _ _ h => h) (Or.inl ⟨by rfl, ?_⟩) hS.out ?_
    rotate_left
    · intro w _
      go_simp
      try with_reducible rfl
    refine wpAnyH_ready (rs := [13, 14]) (by kernel_rfl) (by simp) ?_
    refine AllReadyH.cons rfl (fun K hK => ?_) (AllReadyH.cons rfl (fun K hK => ?_) AllReadyH.nil)
    · go_simp
      refine (link_calls hs A n c p _ HH.out (HR.out.later HC5.out) HN.out (by omega)).mono ?_
      rintro e w6 ⟨rfl, h6⟩
      have HA1 : Hid (∀ ad, A1 = some ad → ad.block < w6.heap.size) := Lib.hid (own_lt (HO5.out.chg h6.out (fun _ _ h => h)))
      have HC6 := Lib.hid ((HC5.out.step h6.out (fun _ h => h.elim)).alloc (.cells #[] 5))
      have HO6 := Lib.hid ((HO5.out.chg h6.out (fun _ _ h => h)).alloc (.cells #[] 5))
      have HOE : Hid (Own (w6.alloc (.cells #[] 5)) 5 1 (some ⟨w6.heap.size, 0, none⟩) 0 0 (bs [])) := Lib.hid (elem_nil w6)
      replace hS := Lib.hid (hS.out.chg h6.out (fun h => h))
      have hzw := hS.out.lt
      clear h6
      refine hK.out _ _ hS.out (fun _ => ?_)
      clear hK K
      refine wpAnyH_ready (rs := [14]) (by kernel_rfl) (by simp) ?_
      refine AllReadyH.cons rfl (fun K hK => ?_) AllReadyH.nil
      go_simp
      replace hS := Lib.hid (hS.out.alloc (.cells #[] 5))
      refine hK.out _ _ hS.out (fun _ => ?_)
      clear hK K
      refine wpAnyH_ready (rs := [16]) (by kernel_rfl) (by simp) ?_
      refine AllReadyH.cons rfl (fun K hK => ?_) AllReadyH.nil
      rw [if_pos (by kernel_rfl)]
      refine wp_append_Own (.tmp 25) (.tmp 26) elemB rfl rfl HOE.out rfl (rd_u8s hS.out) (by rw [bs_length, HH.out]) (bs_one hs) (by decide) (by decide) (fun h => by cases h) ?_
      intro A7 c7 w7 hown7 hchg7 hA7
      have hsm := hchg7.size
      have HZ7 : Hid (∀ ad, A7 = some ad → w6.heap.size ≤ ad.block) := Lib.hid (fun ad e => by
        rcases hA7 with h | h
        · rw [e] at h
          injection h with h
          rw [h]
          exact Nat.le_refl _
        · rw [e] at h
          injection h with h
          rw [h]
          exact by simp)
      have HC7 : Hid (Chg nowhere w w7) := Lib.hid (HC6.out.step hchg7 (fun x hx => by
        obtain ⟨ad, e, h1⟩ := hx
        injection e with e
        subst e
        have h2 : w6.heap.size = x := h1
        omega))
      have HO7 := Lib.hid (HO6.out.chg hchg7 (fun ad e hx => by
        obtain ⟨ad', e', h1⟩ := hx
        injection e' with e'
        subst e'
        have h2 : w6.heap.size = ad.block := h1
        have h3 := HA1.out ad e
        omega))
      have HOE7 : Hid (Own w7 5 1 A7 32 c7 (bs hs)) := Lib.hid (by have h := hown7; rw [Nat.zero_add] at h; exact h)
      replace hS := Lib.hid (hS.out.chg hchg7 (fun hx => by
        obtain ⟨ad', e', h1⟩ := hx
        injection e' with e'
        subst e'
        have h2 : w6.heap.size = w.heap.size := h1
        omega))
      clear hown7 hchg7 hA7
      rw [Nat.zero_add]
      refine hK.out _ _ hS.out (fun _ => ?_)
      clear hK K
      refine wpAnyH_ready (rs := [18]) (by kernel_rfl) (by simp) ?_
      refine AllReadyH.cons rfl (fun K hK => ?_) AllReadyH.nil
      rw [if_pos (by kernel_rfl)]
      refine wp_append_Own (.tmp 27) (.tmp 28) elemB rfl rfl HOE7.out rfl (HR.out.later HC7.out) (by rw [bs_length, HN.out, Nat.mul_one]) (bs_one p) (by unfold maxLen; omega) (by omega) HNIL.out ?_
      intro A8 c8 w8 hown8 hchg8 hA8
      have HC8 : Hid (Chg nowhere w w8) := Lib.hid (HC7.out.step hchg8 (fun x hx => by
        obtain ⟨ad, e, h1⟩ := hx
        have h2 := HZ7.out ad e
        omega))
      have HO8 := Lib.hid (HO7.out.chg hchg8 (fun ad e hx => by
        obtain ⟨ad', e', h1⟩ := hx
        have h2 := HZ7.out ad' e'
        have h3 := HA1.out ad e
        omega))
      have HOE8 : Hid (Own w8 5 1 A8 (32 + n) c8 (bs (hs ++ p))) := Lib.hid (by rw [← bs_append]; exact hown8)
      replace hS := Lib.hid (hS.out.chg hchg8 (fun hx => by
        obtain ⟨ad', e', h1⟩ := hx
        have h2 := HZ7.out ad' e'
        omega))
      clear hown8 hchg8 hA8
      refine hK.out _ _ hS.out (fun _ => ?_)
      clear hK K
      refine wpAnyH_ready (rs := [19]) (by kernel_rfl) (by simp) ?_
      refine AllReadyH.cons rfl (fun K hK => ?_) AllReadyH.nil
      go_simp
      refine (dSum_calls A8 (32 + n) c8 (hs ++ p) _ HOE8.out.rd (by rw [List.length_append, HH.out, HN.out]) (by rcases HOE8.out.form with ⟨_, h1, _⟩ | ⟨_, _, _, _, h1, _⟩ <;> omega) (by omega)).mono ?_
      rintro e w9 ⟨rfl, h9⟩
      have HC9 := Lib.hid (HC8.out.step h9.out (fun _ h => h.elim))
      have HO9 := Lib.hid (HO8.out.chg h9.out (fun _ _ h => h))
      replace hS := Lib.hid (hS.out.chg h9.out (fun h => h))
      clear h9
      refine hK.out _ _ hS.out (fun _ => ?_)
      clear hK K
      refine wpAnyH_take (i := 20) (v := ?_) rfl (by kernel_rfl) (by kernel_rfl) (by kernel_rfl) (fun _ _ _ h => h) (Or.inl ⟨by rfl, ?_⟩) hS.out ?_
      rotate_left
      · intro w _
        go_simp
        try with_reducible rfl
      refine wpAnyH_take (i := 21) (v := ?_) rfl (by kernel_rfl) (by kernel_rfl) (by kernel_rfl) (fun _ _ _ h => h) (Or.inl ⟨by rfl, ?_⟩) hS.out ?_
      rotate_left
      · intro w _
        go_simp
        try with_reducible rfl
      refine wpAnyH_take (i := 22) (v := ?_) rfl (by kernel_rfl) (by kernel_rfl) (by kernel_rfl) (fun _ _ _ h => h) (Or.inl ⟨by rfl, ?_⟩) hS.out ?_
      rotate_left
      · intro w _
        go_simp
        try with_reducible rfl
      refine wpAnyH_take (i := 23) (v := ?_) rfl (by kernel_rfl) (by kernel_rfl) (by kernel_rfl) (fun _ _ _ h => h) (Or.inl ⟨by rfl, ?_⟩) hS.out ?_
      rotate_left
      · intro w _
        go_simp
        try with_reducible rfl
      refine wpAnyH_take (i := 24) (v := ?_) rfl (by kernel_rfl) (by kernel_rfl) (by kernel_rfl) (fun _ _ _ h => h) (Or.inl ⟨by rfl, ?_⟩) hS.out ?_
      rotate_left
      · intro w _
        go_simp
        try with_reducible rfl
      refine wpAnyH_ready (rs := [25]) (by kernel_rfl) (by simp) ?_
      refine AllReadyH.cons rfl (fun K hK => ?_) AllReadyH.nil
      go_simp
      refine (stands_calls A1 A n c1 c p _ HN.out (by omega) HO9.out (HR.out.later HC9.out)).mono ?_
      rintro e w10 ⟨rfl, k10, rfl⟩
      have HC10 := Lib.hid (HC9.out.drewN k10)
      have hSd : Hid (Blk (w9.drewN k10) w.heap.size 25 (u8s hs)) := hS
      clear hS
      have hS := hSd
      clear hSd
      refine hK.out _ _ hS.out (fun _ => ?_)
      clear hK K
      refine wpAnyH_take (i := 26) (v := ?_) rfl (by kernel_rfl) (by kernel_rfl) (by kernel_rfl) (fun _ _ _ h => h) (Or.inl ⟨by rfl, ?_⟩) hS.out ?_
      rotate_left
      · intro w _
        go_simp
        try with_reducible rfl
      refine wpAnyH_take (i := 27) (v := ?_) rfl (by kernel_rfl) (by kernel_rfl) (by kernel_rfl) (fun _ _ _ h => h) (Or.inl ⟨by rfl, ?_⟩) hS.out ?_
      rotate_left
      · intro w _
        go_simp
        try with_reducible rfl
      refine' wpAnyH_take (i := 28) (v := _) rfl (by kernel_rfl) (by kernel_rfl) (by kernel_rfl) (fun _ _ _ h => h) (yieldsIf_load_mid (by rfl) _ _ rfl _ _ rfl (bs hs) _ HRANGE.out HUND.out rfl HINF.out) hS.out ?_
      refine' wpAnyH_take (i := 30) (v := _) rfl (by kernel_rfl) (by kernel_rfl) (by kernel_rfl) (fun _ _ _ h => h) (yieldsIf_load_mid (by rfl) _ _ rfl _ _ rfl (bs hs) _ HRANGE.out HUND.out rfl HINF.out) hS.out ?_
      refine wpAnyH_ready (rs := [29]) (by kernel_rfl) (by simp) ?_
      refine AllReadyH.cons rfl (fun K hK => ?_) AllReadyH.nil
      go_simp
      refine (hex_calls hs _ HH.out).mono ?_
      rintro e w11 ⟨rfl, h11⟩
      have HC11 := Lib.hid (HC10.out.step h11.out (fun _ h => h.elim))
      replace hS := Lib.hid (hS.out.chg h11.out (fun h => h))
      clear h11
      refine hK.out _ _ hS.out (fun _ => ?_)
      clear hK K
      refine wpAnyH_ready (rs := [31]) (by kernel_rfl) (by simp) ?_
      refine AllReadyH.cons rfl (fun K hK => ?_) AllReadyH.nil
      go_simp
      refine (refHex_calls hs _ HH.out).mono ?_
      rintro e w12 ⟨rfl, h12⟩
      have HC12 := Lib.hid (HC11.out.step h12.out (fun _ h => h.elim))
      replace hS := Lib.hid (hS.out.chg h12.out (fun h => h))
      clear h12
      refine hK.out _ _ hS.out (fun _ => ?_)
      clear hK K
      refine wpAnyH_take (i := 32) (v := ?_) rfl (by kernel_rfl) (by kernel_rfl) (by kernel_rfl) (fun _ _ _ h => h) (Or.inl ⟨by rfl, ?_⟩) hS.out ?_
      rotate_left
      · intro w _
        go_simp
        try with_reducible rfl
      refine wpAnyH_take (i := 33) (v := ?_) rfl (by kernel_rfl) (by kernel_rfl) (by kernel_rfl) (fun _ _ _ h => h) (Or.inl ⟨by rfl, ?_⟩) hS.out ?_
      rotate_left
      · intro w _
        go_simp
        try with_reducible rfl
      refine wpAnyH_take (i := 34) (v := ?_) rfl (by kernel_rfl) (by kernel_rfl) (by kernel_rfl) (fun _ _ _ h => h) (Or.inl ⟨by rfl, ?_⟩) hS.out ?_
      rotate_left
      · intro w _
        go_simp
        try with_reducible rfl
      refine wpAnyH_ready (rs := [35]) (by kernel_rfl) (by simp) ?_
      refine AllReadyH.cons rfl (fun K hK => ?_) AllReadyH.nil
      go_simp
      refine (known_calls _).mono ?_
      rintro e w13 ⟨rfl, h13⟩
      have HC13 := Lib.hid (HC12.out.step h13.out (fun _ h => h.elim))
      replace hS := Lib.hid (hS.out.chg h13.out (fun h => h))
      clear h13
      refine hK.out _ _ hS.out (fun _ => ?_)
      clear hK K
      refine wpAnyH_take (i := 36) (v := ?_) rfl (by kernel_rfl) (by kernel_rfl) (by kernel_rfl) (fun _ _ _ h => h) (Or.inl ⟨by rfl, ?_⟩) hS.out ?_
      rotate_left
      · intro w _
        go_simp
        try with_reducible rfl
      refine wpAnyH_take (i := 37) (v := ?_) rfl (by kernel_rfl) (by kernel_rfl) (by kernel_rfl) (fun _ _ _ h => h) (Or.inl ⟨by rfl, ?_⟩) hS.out ?_
      rotate_left
      · intro w _
        go_simp
        try with_reducible rfl
      refine wpAnyH_done (by kernel_rfl) ?_ _
      go_wp2_with fail
      go_ret
      exact ⟨rfl, HC13.out⟩

    · go_simp
      have hzw := hS.out.lt
      have HA1 : Hid (∀ ad, A1 = some ad → ad.block < w5.heap.size) := Lib.hid (own_lt HO5.out)
      replace hS := Lib.hid (hS.out.alloc (.cells #[] 5))
      refine hK.out _ _ hS.out (fun _ => ?_)
      clear hK K
      refine wpAnyH_ready (rs := [13]) (by kernel_rfl) (by simp) ?_
      refine AllReadyH.cons rfl (fun K hK => ?_) AllReadyH.nil
      go_simp
      refine (link_calls hs A n c p _ HH.out ((HR.out.later HC5.out).alloc _) HN.out (by omega)).mono ?_
      rintro e w6 ⟨rfl, h6⟩
      have hsz6 : w5.heap.size ≤ w6.heap.size := by
        have h := h6.out.size
        simp at h
        omega
      have HC6 := Lib.hid ((HC5.out.alloc (.cells #[] 5)).step h6.out (fun _ h => h.elim))
      have HO6 := Lib.hid ((HO5.out.alloc (.cells #[] 5)).chg h6.out (fun _ _ h => h))
      have HOE : Hid (Own w6 5 1 (some ⟨w5.heap.size, 0, none⟩) 0 0 (bs [])) := Lib.hid ((show Own (w5.alloc (.cells #[] 5)) 5 1 (some ⟨w5.heap.size, 0, none⟩) 0 0 (bs []) from elem_nil w5).chg h6.out (fun _ _ h => h))
      replace hS := Lib.hid (hS.out.chg h6.out (fun h => h))
      clear h6
      refine hK.out _ _ hS.out (fun _ => ?_)
      clear hK K
      refine wpAnyH_ready (rs := [16]) (by kernel_rfl) (by simp) ?_
      refine AllReadyH.cons rfl (fun K hK => ?_) AllReadyH.nil
      rw [if_pos (by kernel_rfl)]
      refine wp_append_Own (.tmp 25) (.tmp 26) elemB rfl rfl HOE.out rfl (rd_u8s hS.out) (by rw [bs_length, HH.out]) (bs_one hs) (by decide) (by decide) (fun h => by cases h) ?_
      intro A7 c7 w7 hown7 hchg7 hA7
      have hsm := hchg7.size
      have HZ7 : Hid (∀ ad, A7 = some ad → w5.heap.size ≤ ad.block) := Lib.hid (fun ad e => by
        rcases hA7 with h | h
        · rw [e] at h
          injection h with h
          rw [h]
          exact Nat.le_refl _
        · rw [e] at h
          injection h with h
          rw [h]
          exact hsz6)
      have HC7 : Hid (Chg nowhere w w7) := Lib.hid (HC6.out.step hchg7 (fun x hx => by
        obtain ⟨ad, e, h1⟩ := hx
        injection e with e
        subst e
        have h2 : w5.heap.size = x := h1
        omega))
      have HO7 := Lib.hid (HO6.out.chg hchg7 (fun ad e hx => by
        obtain ⟨ad', e', h1⟩ := hx
        injection e' with e'
        subst e'
        have h2 : w5.heap.size = ad.block := h1
        have h3 := HA1.out ad e
        omega))
      have HOE7 : Hid (Own w7 5 1 A7 32 c7 (bs hs)) := Lib.hid (by have h := hown7; rw [Nat.zero_add] at h; exact h)
      replace hS := Lib.hid (hS.out.chg hchg7 (fun hx => by
        obtain ⟨ad', e', h1⟩ := hx
        injection e' with e'
        subst e'
        have h2 : w5.heap.size = w.heap.size := h1
        omega))
      clear hown7 hchg7 hA7
      rw [Nat.zero_add]
      refine hK.out _ _ hS.out (fun _ => ?_)
      clear hK K
      refine wpAnyH_ready (rs := [18]) (by kernel_rfl) (by simp) ?_
      refine AllReadyH.cons rfl (fun K hK => ?_) AllReadyH.nil
      rw [if_pos (by kernel_rfl)]
      refine wp_append_Own (.tmp 27) (.tmp 28) elemB rfl rfl HOE7.out rfl (HR.out.later HC7.out) (by rw [bs_length, HN.out, Nat.mul_one]) (bs_one p) (by unfold maxLen; omega) (by omega) HNIL.out ?_
      intro A8 c8 w8 hown8 hchg8 hA8
      have HC8 : Hid (Chg nowhere w w8) := Lib.hid (HC7.out.step hchg8 (fun x hx => by
        obtain ⟨ad, e, h1⟩ := hx
        have h2 := HZ7.out ad e
        omega))
      have HO8 := Lib.hid (HO7.out.chg hchg8 (fun ad e hx => by
        obtain ⟨ad', e', h1⟩ := hx
        have h2 := HZ7.out ad' e'
        have h3 := HA1.out ad e
        omega))
      have HOE8 : Hid (Own w8 5 1 A8 (32 + n) c8 (bs (hs ++ p))) := Lib.hid (by rw [← bs_append]; exact hown8)
      replace hS := Lib.hid (hS.out.chg hchg8 (fun hx => by
        obtain ⟨ad', e', h1⟩ := hx
        have h2 := HZ7.out ad' e'
        omega))
      clear hown8 hchg8 hA8
      refine hK.out _ _ hS.out (fun _ => ?_)
      clear hK K
      refine wpAnyH_ready (rs := [19]) (by kernel_rfl) (by simp) ?_
      refine AllReadyH.cons rfl (fun K hK => ?_) AllReadyH.nil
      go_simp
      refine (dSum_calls A8 (32 + n) c8 (hs ++ p) _ HOE8.out.rd (by rw [List.length_append, HH.out, HN.out]) (by rcases HOE8.out.form with ⟨_, h1, _⟩ | ⟨_, _, _, _, h1, _⟩ <;> omega) (by omega)).mono ?_
      rintro e w9 ⟨rfl, h9⟩
      have HC9 := Lib.hid (HC8.out.step h9.out (fun _ h => h.elim))
      have HO9 := Lib.hid (HO8.out.chg h9.out (fun _ _ h => h))
      replace hS := Lib.hid (hS.out.chg h9.out (fun h => h))
      clear h9
      refine hK.out _ _ hS.out (fun _ => ?_)
      clear hK K
      refine wpAnyH_take (i := 20) (v := ?_) rfl (by kernel_rfl) (by kernel_rfl) (by kernel_rfl) (fun _ _ _ h => h) (Or.inl ⟨by rfl, ?_⟩) hS.out ?_
      rotate_left
      · intro w _
        go_simp
        try with_reducible rfl
      refine wpAnyH_take (i := 21) (v := ?_) rfl (by kernel_rfl) (by kernel_rfl) (by kernel_rfl) (fun _ _ _ h => h) (Or.inl ⟨by rfl, ?_⟩) hS.out ?_
      rotate_left
      · intro w _
        go_simp
        try with_reducible rfl
      refine wpAnyH_take (i := 22) (v := ?_) rfl (by kernel_rfl) (by kernel_rfl) (by kernel_rfl) (fun _ _ _ h => h) (Or.inl ⟨by rfl, ?_⟩) hS.out ?_
      rotate_left
      · intro w _
        go_simp
        try with_reducible rfl
      refine wpAnyH_take (i := 23) (v := ?_) rfl (by kernel_rfl) (by kernel_rfl) (by kernel_rfl) (fun _ _ _ h => h) (Or.inl ⟨by rfl, ?_⟩) hS.out ?_
      rotate_left
      · intro w _
        go_simp
        try with_reducible rfl
      refine wpAnyH_take (i := 24) (v := ?_) rfl (by kernel_rfl) (by kernel_rfl) (by kernel_rfl) (fun _ _ _ h => h) (Or.inl ⟨by rfl, ?_⟩) hS.out ?_
      rotate_left
      · intro w _
        go_simp
        try with_reducible rfl
      refine wpAnyH_ready (rs := [25]) (by kernel_rfl) (by simp) ?_
      refine AllReadyH.cons rfl (fun K hK => ?_) AllReadyH.nil
      go_simp
      refine (stands_calls A1 A n c1 c p _ HN.out (by omega) HO9.out (HR.out.later HC9.out)).mono ?_
      rintro e w10 ⟨rfl, k10, rfl⟩
      have HC10 := Lib.hid (HC9.out.drewN k10)
      have hSd : Hid (Blk (w9.drewN k10) w.heap.size 25 (u8s hs)) := hS
      clear hS
      have hS := hSd
      clear hSd
      refine hK.out _ _ hS.out (fun _ => ?_)
      clear hK K
      refine wpAnyH_take (i := 26) (v := ?_) rfl (by kernel_rfl) (by kernel_rfl) (by kernel_rfl) (fun _ _ _ h => h) (Or.inl ⟨by rfl, ?_⟩) hS.out ?_
      rotate_left
      · intro w _
        go_simp
        try with_reducible rfl
      refine wpAnyH_take (i := 27) (v := ?_) rfl (by kernel_rfl) (by kernel_rfl) (by kernel_rfl) (fun _ _ _ h => h) (Or.inl ⟨by rfl, ?_⟩) hS.out ?_
      rotate_left
      · intro w _
        go_simp
        try with_reducible rfl
      refine' wpAnyH_take (i := 28) (v := _) rfl (by kernel_rfl) (by kernel_rfl) (by kernel_rfl) (fun _ _ _ h => h) (yieldsIf_load_mid (by rfl) _ _ rfl _ _ rfl (bs hs) _ HRANGE.out HUND.out rfl HINF.out) hS.out ?_
      refine' wpAnyH_take (i := 30) (v := _) rfl (by kernel_rfl) (by kernel_rfl) (by kernel_rfl) (fun _ _ _ h => h) (yieldsIf_load_mid (by rfl) _ _ rfl _ _ rfl (bs hs) _ HRANGE.out HUND.out rfl HINF.out) hS.out ?_
      refine wpAnyH_ready (rs := [29]) (by kernel_rfl) (by simp) ?_
      refine AllReadyH.cons rfl (fun K hK => ?_) AllReadyH.nil
      go_simp
      refine (hex_calls hs _ HH.out).mono ?_
      rintro e w11 ⟨rfl, h11⟩
      have HC11 := Lib.hid (HC10.out.step h11.out (fun _ h => h.elim))
      replace hS := Lib.hid (hS.out.chg h11.out (fun h => h))
      clear h11
      refine hK.out _ _ hS.out (fun _ => ?_)
      clear hK K
      refine wpAnyH_ready (rs := [31]) (by kernel_rfl) (by simp) ?_
      refine AllReadyH.cons rfl (fun K hK => ?_) AllReadyH.nil
      go_simp
      refine (refHex_calls hs _ HH.out).mono ?_
      rintro e w12 ⟨rfl, h12⟩
      have HC12 := Lib.hid (HC11.out.step h12.out (fun _ h => h.elim))
      replace hS := Lib.hid (hS.out.chg h12.out (fun h => h))
      clear h12
      refine hK.out _ _ hS.out (fun _ => ?_)
      clear hK K
      refine wpAnyH_take (i := 32) (v := ?_) rfl (by kernel_rfl) (by kernel_rfl) (by kernel_rfl) (fun _ _ _ h => h) (Or.inl ⟨by rfl, ?_⟩) hS.out ?_
      rotate_left
      · intro w _
        go_simp
        try with_reducible rfl
      refine wpAnyH_take (i := 33) (v := ?_) rfl (by kernel_rfl) (by kernel_rfl) (by kernel_rfl) (fun _ _ _ h => h) (Or.inl ⟨by rfl, ?_⟩) hS.out ?_
      rotate_left
      · intro w _
        go_simp
        try with_reducible rfl
      refine wpAnyH_take (i := 34) (v := ?_) rfl (by kernel_rfl) (by kernel_rfl) (by kernel_rfl) (fun _ _ _ h => h) (Or.inl ⟨by rfl, ?_⟩) hS.out ?_
      rotate_left
      · intro w _
        go_simp
        try with_reducible rfl
      refine wpAnyH_ready (rs := [35]) (by kernel_rfl) (by simp) ?_
      refine AllReadyH.cons rfl (fun K hK => ?_) AllReadyH.nil
      go_simp
      refine (known_calls _).mono ?_
      rintro e w13 ⟨rfl, h13⟩
      have HC13 := Lib.hid (HC12.out.step h13.out (fun _ h => h.elim))
      replace hS := Lib.hid (hS.out.chg h13.out (fun h => h))
      clear h13
      refine hK.out _ _ hS.out (fun _ => ?_)
      clear hK K
      refine wpAnyH_take (i := 36) (v := ?_) rfl (by kernel_rfl) (by kernel_rfl) (by kernel_rfl) (fun _ _ _ h => h) (Or.inl ⟨by rfl, ?_⟩) hS.out ?_
      rotate_left
      · intro w _
        go_simp
        try with_reducible rfl
      refine wpAnyH_take (i := 37) (v := ?_) rfl (by kernel_rfl) (by kernel_rfl) (by kernel_rfl) (fun _ _ _ h => h) (Or.inl ⟨by rfl, ?_⟩) hS.out ?_
      rotate_left
      · intro w _
        go_simp
        try with_reducible rfl
      refine wpAnyH_done (by kernel_rfl) ?_ _
      go_wp2_with fail
      go_ret
      exact ⟨rfl, HC13.out⟩

end Go.Proofs.Ytlaohifjdpjocaa
