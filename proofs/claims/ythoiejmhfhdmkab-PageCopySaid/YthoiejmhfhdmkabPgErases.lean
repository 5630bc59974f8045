/- An erased page is all ones, others are as they were (the law PageErases). -/
import Derived.Test.YthoiejmhfhdmkabPgTwice
open Go Go.RowKit
namespace Go.Proofs.Ythoiejmhfhdmkab
theorem Live_program_bad (g p N : Nat) (ps : List UInt8) (i : Int) (B : Option Addr) (nb cb : Nat) (ys : List UInt8) (w : World) (h : Live w g p N ps) (hi : i < 0 ∨ (N : Int) ≤ i ∨ 64 < nb) (hy : Rd w B (bs ys)) (hyn : ys.length = nb) (hB : Apart (Two g p) B (bs ys)) (hn : nb ≤ 9223372036854775807) :
    Calls Try.prog 9 #[.pointer (some ⟨g, 0, none⟩), .int .i64 i, .slice B nb cb] w fun e w' => e = .returned (.int .i64 1) ∧ Hid (Live w' g p N ps) ∧ Hid (Chg (Two g p) w w') := by
  obtain ⟨s, hs, rfl, h2, h3⟩ := h.at_
  refine (Program_calls g p N s i B nb cb ys w hs hy hyn hB hn).mono ?_
  rintro e w' ⟨rfl, h4, h5⟩
  rw [FS.change_bad h2 hi] at h4 ⊢
  exact ⟨rfl, ⟨_, h4.out, rfl, h2, h3⟩, h5⟩
theorem own_far {w w' : World} {e : TypeId} {gx n c : Nat} {xs : List Value} {g p : Nat} {w0 : World} (h : Own w e 1 (some ⟨gx, 0, none⟩) n c xs) (hc : Chg (Two g p) w w') (hx : w0.heap.size ≤ gx) (hg : g < w0.heap.size) (hp : p < w0.heap.size) : Own w' e 1 (some ⟨gx, 0, none⟩) n c xs :=
  h.chg hc (fun ad e hT => by
    injection e with e; subst e
    rcases hT with h | h
    · have h' : gx = g := h; omega
    · have h' : gx = p := h; omega)
set_option maxRecDepth 100000 in
set_option maxHeartbeats 1600000 in
theorem pageErases_calls (A : Option Addr) (n c : Nat) (xs : List UInt8) (B : Option Addr) (m d : Nat) (ys : List UInt8) (w : World) (ha : Rd w A (bs xs)) (hn : xs.length = n) (hb : Rd w B (bs ys)) (hm : ys.length = m) (hn9 : n ≤ 9223372036854775807) (hm9 : m ≤ 9223372036854775807) :
    Calls Try.prog 7 #[.slice A n c, .slice B m d] w fun e w' => e = .returned (.bool true) ∧ Chg nowhere w w' := by
  have HA := Lib.hid ha
  have HB := Lib.hid hb
  have HN := Lib.hid hn
  have HM := Lib.hid hm
  clear ha hb hn hm
  by_cases h1 : 64 < n
  · have e1 : (64 : Int) < n := by omega
    go_enter Try.func7, Try.ntmps7
    go_wp2_with fail
    go_ret
    exact ⟨rfl, Chg.refl _ _⟩
  · by_cases h2 : 64 < m
    · have e1 : ¬ (64 : Int) < n := by omega
      have e2 : (64 : Int) < m := by omega
      go_enter Try.func7, Try.ntmps7
      go_wp2_with fail
      go_ret
      exact ⟨rfl, Chg.refl _ _⟩
    · have e1 : ¬ (64 : Int) < n := by omega
      have e2 : ¬ (64 : Int) < m := by omega
      go_enter Try.func7, Try.ntmps7
      go_wp2_with fail
      refine (New_calls 2 _ (by decide) (by decide)).mono ?_
      rintro e w1 ⟨g, p, rfl, k1, hc1, hg, hp⟩
      have HL1 := Lib.hid (Live.new k1.out)
      have HC1 := hc1
      obtain ⟨hg1, hp1, hlen1⟩ := HL1.out.lts
      have HTWO : Hid (∀ x, Two g p x → w.heap.size ≤ x) := Lib.hid (by rintro x (rfl | rfl) <;> assumption)
      clear k1 hc1
      go_wp2_with fail
      refine (Live_program g p 2 _ 0 A n c xs _ HL1.out (by decide) (HA.out.later HC1.out) HN.out (HA.out.apart HTWO.out) (by omega)).mono ?_
      rintro e w2 ⟨rfl, k2, c2⟩
      have HC2 := Lib.hid (HC1.out.step c2.out HTWO.out)
      have z2 := c2.out.size
      clear c2
      go_wp2_with fail
      refine (Live_program g p 2 _ 1 B m d ys _ k2.out (by decide) (HB.out.later HC2.out) HM.out (HB.out.apart HTWO.out) (by omega)).mono ?_
      rintro e w3 ⟨rfl, k3, c3⟩
      have HC3 := Lib.hid (HC2.out.step c3.out HTWO.out)
      have z3 := c3.out.size
      clear c3 k2
      go_wp2_with fail
      refine (Live_read g p 2 _ 1 _ k3.out (by decide)).mono ?_
      rintro e w4 ⟨gx, cx, rfl, ox, c4, hgx⟩
      have HC4 := Lib.hid (HC3.out.step c4.out (fun _ h => h.elim))
      have HL4 := Lib.hid (k3.out.calm c4.out)
      obtain ⟨_, _, hlen4⟩ := HL4.out.lts
      have hgx' : w1.heap.size ≤ gx := by have := hgx.out; omega
      clear c4 k3
      go_wp2_with fail
      refine (Live_erase g p 2 _ 0 _ HL4.out (by decide)).mono ?_
      rintro e w5 ⟨rfl, k5, c5⟩
      have HC5 := Lib.hid (HC4.out.step c5.out HTWO.out)
      have HX5 := Lib.hid (own_far ox.out c5.out hgx' hg1 hp1)
      clear c5
      go_wp2_with fail
      refine (Live_read g p 2 _ 0 _ k5.out (by decide)).mono ?_
      rintro e w6 ⟨gy, cy, rfl, oy, c6, hgy⟩
      have HC6 := Lib.hid (HC5.out.step c6.out (fun _ h => h.elim))
      have HL6 := Lib.hid (k5.out.calm c6.out)
      have HX6 := Lib.hid (HX5.out.chg c6.out (fun _ _ h => h))
      rw [pageOf_erD hlen4 (by decide)] at oy
      clear c6 k5 HX5
      go_wp2_with fail
      refine (Live_read g p 2 _ 1 _ HL6.out (by decide)).mono ?_
      rintro e w7 ⟨gz, cz, rfl, oz, c7, hgz⟩
      have HC7 := Lib.hid (HC6.out.step c7.out (fun _ h => h.elim))
      have HL7 := Lib.hid (HL6.out.calm c7.out)
      have HX7 := Lib.hid (HX6.out.chg c7.out (fun _ _ h => h))
      have HY7 := Lib.hid (oy.out.chg c7.out (fun _ _ h => h))
      rw [pageOf_erD_other hlen4 (by decide) (by decide)] at oz
      have hlx := pageOf_len hlen4 (show 1 < 2 by decide)
      have hlo : (ones 64).length = 64 := by simp [ones]
      have HLX := Lib.hid hlx
      have HLO := Lib.hid hlo
      clear c7 HX6 hlx hlo
      generalize pageOf _ 1 = pq at *
      go_wp2_with fail
      go_loop [13] (fun t => ∃ k : Nat, k ≤ 64 ∧ t = .int .i64 k) (fun t => 64 - (intOf t).toNat)
      case atStart => exact ⟨0, Nat.zero_le _, rfl⟩
      case round =>
        obtain ⟨k, hk, rfl⟩ := hrel
        by_cases hlt : k < 64
        · have f1 : (k : Int) < 64 := by omega
          have f0 : (0 : Int) ≤ k := by omega
          obtain ⟨ay, y, ey, hy, hcy⟩ := HY7.out.rd.byte (k := k) (by have := HLO.out; omega)
          injection ey with ey
          subst ey
          rw [add_row] at hcy
          have hy255 : y = 255 := by
            unfold ones at hy
            rw [List.getElem?_replicate, if_pos hlt] at hy
            injection hy with hy
            exact hy.symm
          subst hy255
          have hcy' : w7.cell? ⟨gy, k, none⟩ = some (.int .u8 255) := hcy
          clear hy hcy
          go_wp2_with fail
          exact ⟨⟨k + 1, by omega, by go_num⟩, by simp [intOf]; omega⟩
        · have f1 : (64 : Int) ≤ k := by omega
          have cvx := conv_own HX7.out HLX.out
          have cvz := conv_own oz.out HLX.out
          go_wp2_with fail
          refine (Live_program_bad g p 2 _ 2 A n c xs _ HL7.out (.inr (.inl (by decide))) (HA.out.later HC7.out) HN.out (HA.out.apart HTWO.out) hn9).mono ?_
          rintro e w8 ⟨rfl, k8, c8⟩
          have HC8 := Lib.hid (HC7.out.step c8.out HTWO.out)
          clear c8 k8
          go_wp2_with fail
          refine (pgKnown_calls _).mono ?_
          rintro e w9 ⟨rfl, h9⟩
          have HC9 := Lib.hid (HC8.out.step h9.out (fun _ h => h.elim))
          go_wp2_with fail
          go_ret
          exact ⟨rfl, HC9.out⟩
end Go.Proofs.Ythoiejmhfhdmkab
