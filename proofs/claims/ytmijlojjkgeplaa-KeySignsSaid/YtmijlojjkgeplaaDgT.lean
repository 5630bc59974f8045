/- The rounds of one block: (*state).turn. -/
import Derived.Test.YtmijlojjkgeplaaDgR
import Derived.Test.YtmijlojjkgeplaaBase
import Derived.StillTailTactics
open Go Go.RowKit
namespace Go.Proofs.Ytmijlojjkgeplaa
theorem u32_not' (a : Nat) (ha : a < 4294967296) : bits .xor .u32 IntKind.u32.max (a : Int) = ((4294967295 - a : Nat) : Int) := by
  rw [show IntKind.u32.max = ((4294967295 : Nat) : Int) from rfl, u32_xor_nat _ a (by decide) ha]
  congr 1
  have h1 : (BitVec.ofNat 32 a).toNat = a := by simp [Nat.mod_eq_of_lt ha]
  have h2 : (BitVec.allOnes 32 ^^^ BitVec.ofNat 32 a).toNat = 4294967295 - a := by
    rw [BitVec.allOnes_xor, BitVec.toNat_not, h1]
  rw [BitVec.toNat_xor, h1] at h2
  exact h2
theorem index8 (u : V8) (k : Nat) (hk : k < 8) (w : World) : (Instr.index 166 (.agg #[.int .u32 (u.a : Int), .int .u32 (u.b : Int), .int .u32 (u.c : Int), .int .u32 (u.d : Int), .int .u32 (u.e : Int), .int .u32 (u.f : Int), .int .u32 (u.g : Int), .int .u32 (u.h : Int)]) (.int .i64 (k : Int))).run Try.prog w = .ok (.int .u32 (u.l.getD k 0 : Nat)) w := by
  rcases (show k = 0 ∨ k = 1 ∨ k = 2 ∨ k = 3 ∨ k = 4 ∨ k = 5 ∨ k = 6 ∨ k = 7 by omega) with rfl | rfl | rfl | rfl | rfl | rfl | rfl | rfl <;> kernel_rfl
def addPart (v u : V8) (k : Nat) : List Nat := (List.range 8).map fun i => if i < k then add32 (v.l.getD i 0) (u.l.getD i 0) else v.l.getD i 0
theorem addPart_len (v u : V8) (k : Nat) : (addPart v u k).length = 8 := by simp [addPart]
theorem addPart_start (v u : V8) : addPart v u 0 = v.l := rfl
theorem addPart_end (v u : V8) : addPart v u 8 = (v.add u).l := rfl
theorem addPart_get (v u : V8) (k : Nat) (h : k < 8) : (addPart v u k).getD k 0 = v.l.getD k 0 := by
  simp [addPart, List.getD_eq_getElem?_getD, h]
theorem addPart_set (v u : V8) (k : Nat) : (addPart v u k).set k (add32 (v.l.getD k 0) (u.l.getD k 0)) = addPart v u (k + 1) := by
  apply List.ext_getElem
  · simp [addPart]
  · intro i h1 h2
    rw [List.getElem_set]
    simp only [addPart, List.getElem_map, List.getElem_range]
    by_cases h : k = i
    · subst h
      rw [if_pos rfl, if_pos (by omega)]
    · rw [if_neg h]
      by_cases h3 : i < k
      · rw [if_pos h3, if_pos (by omega)]
      · rw [if_neg h3, if_neg (by omega)]
set_option maxRecDepth 100000 in
set_option maxHeartbeats 1600000 in
theorem turn_calls (g gw gk : Nat) (v : V8) (ws ks : List Nat) (w : World) (hv : v.ok) (hb : Blk w g 171 (u32s v.l)) (hw : Blk w gw 167 (u32s ws)) (hk : Blk w gk 167 (u32s ks))
    (hwl : ws.length = 64) (hkl : ks.length = 64) (hw32 : ∀ x ∈ ws, x < 4294967296) (hk32 : ∀ x ∈ ks, x < 4294967296) :
    Calls Try.prog 151 #[.pointer (some ⟨g, 0, none⟩), .pointer (some ⟨gw, 0, none⟩), .pointer (some ⟨gk, 0, none⟩)] w fun e w' => e = .returned (.tuple #[]) ∧
      Hid (Blk w' g 171 (u32s (v.add (V8.turn ks ws 64 v)).l)) ∧ Hid (Chg (fun k => k = g) w w') := by
  have HB := Lib.hid hb
  have HW := Lib.hid hw
  have HK := Lib.hid hk
  have HWL := Lib.hid hwl
  have HKL := Lib.hid hkl
  have HW32 := Lib.hid hw32
  have HK32 := Lib.hid hk32
  have HV := Lib.hid hv
  have c0 : w.cell? ⟨g, 0, none⟩ = some (.int .u32 (v.a : Int)) := HB.out.cell 0
  have c1 : w.cell? ⟨g, 1, none⟩ = some (.int .u32 (v.b : Int)) := HB.out.cell 1
  have c2 : w.cell? ⟨g, 2, none⟩ = some (.int .u32 (v.c : Int)) := HB.out.cell 2
  have c3 : w.cell? ⟨g, 3, none⟩ = some (.int .u32 (v.d : Int)) := HB.out.cell 3
  have c4 : w.cell? ⟨g, 4, none⟩ = some (.int .u32 (v.e : Int)) := HB.out.cell 4
  have c5 : w.cell? ⟨g, 5, none⟩ = some (.int .u32 (v.f : Int)) := HB.out.cell 5
  have c6 : w.cell? ⟨g, 6, none⟩ = some (.int .u32 (v.g : Int)) := HB.out.cell 6
  have c7 : w.cell? ⟨g, 7, none⟩ = some (.int .u32 (v.h : Int)) := HB.out.cell 7
  clear hb hw hk hwl hkl hw32 hk32 hv
  go_enter Try.func151, Try.ntmps151
  go_wp2_with fail
  go_quiet (fail)
  go_wp2_with fail
  clear c0 c1 c2 c3 c4 c5 c6 c7
  go_loopw [6, 7, 8, 9, 10, 11, 12, 13, 51] (fun a b c d e f g h t wr => ∃ (k : Nat) (u : V8), k ≤ 64 ∧ t = .int .i64 k ∧ a = .int .u32 (u.a : Int) ∧ b = .int .u32 (u.b : Int) ∧ c = .int .u32 (u.c : Int) ∧ d = .int .u32 (u.d : Int) ∧
      e = .int .u32 (u.e : Int) ∧ f = .int .u32 (u.f : Int) ∧ g = .int .u32 (u.g : Int) ∧ h = .int .u32 (u.h : Int) ∧ u = V8.turn ks ws k v ∧ Chg nowhere w wr) (fun _ _ _ _ _ _ _ _ t _ => 64 - (intOf t).toNat)
  case atStart => exact ⟨0, v, Nat.zero_le _, rfl, rfl, rfl, rfl, rfl, rfl, rfl, rfl, rfl, rfl, (Chg.refl _ _).drewN nq⟩
  case round =>
    obtain ⟨k, u, hk, rfl, rfl, rfl, rfl, rfl, rfl, rfl, rfl, rfl, hu, hch⟩ := hrel
    have HCH := Lib.hid hch
    clear hch
    have hok : u.ok := by rw [hu]; exact V8.ok_turn HV.out _ _ _
    have HU := Lib.hid hu
    clear hu
    by_cases hlt : k < 64
    · have e1 : (k : Int) < 64 := by omega
      have cw : wr.cell? ⟨gw, k, none⟩ = some (.int .u32 (ws.getD k 0 : Nat)) := by
        rw [(HW.out.chg HCH.out (fun h => h)).cell]
        exact u32s_get _ _ (by have := HWL.out; omega)
      have ck : wr.cell? ⟨gk, k, none⟩ = some (.int .u32 (ks.getD k 0 : Nat)) := by
        rw [(HK.out.chg HCH.out (fun h => h)).cell]
        exact u32s_get _ _ (by have := HKL.out; omega)
      have hround : V8.turn ks ws (k + 1) v = u.round (ks.getD k 0) (ws.getD k 0) := by rw [HU.out]; rfl
      have lw := getD_lt HW32.out k
      have lk := getD_lt HK32.out k
      generalize ws.getD k 0 = wk at *
      generalize ks.getD k 0 = kk at *
      have HRD := Lib.hid hround
      clear hround
      rcases u with ⟨a, b, c, d, e, f, g', h⟩
      obtain ⟨la, lb, lc, ld, le, lf, lg, lh⟩ := hok
      dsimp only at la lb lc ld le lf lg lh ⊢
      obtain ⟨xa, hxa⟩ : ∃ z, z = rotr 6 e ^^^ rotr 11 e := ⟨_, rfl⟩
      obtain ⟨xb, hxb⟩ : ∃ z, z = bsig1 e := ⟨_, rfl⟩
      have a1 := @rotr_lt 6 e le (by decide) (by decide)
      have a2 := @rotr_lt 11 e le (by decide) (by decide)
      have a3 := @rotr_lt 25 e le (by decide) (by decide)
      have a4 : xa < 4294967296 := by rw [hxa]; exact xor_lt a1 a2
      have q1 := u32_xor_eq _ _ xa hxa a1 a2
      have q2 := u32_xor_eq xa _ xb (by rw [hxb, hxa]; rfl) a4 a3
      have q1' : bits .xor .u32 ((rotr (Int.toNat 6) e : Nat) : Int) ((rotr (Int.toNat 11) e : Nat) : Int) = xa := q1
      have q2' : bits .xor .u32 (xa : Int) ((rotr (Int.toNat 25) e : Nat) : Int) = xb := q2
      obtain ⟨ya, hya⟩ : ∃ z, z = e &&& f := ⟨_, rfl⟩
      obtain ⟨ne, hne⟩ : ∃ z, z = 4294967295 - e := ⟨_, rfl⟩
      obtain ⟨yb, hyb⟩ : ∃ z, z = ne &&& g' := ⟨_, rfl⟩
      obtain ⟨yc, hyc⟩ : ∃ z, z = ch32 e f g' := ⟨_, rfl⟩
      have a5 : ya < 4294967296 := by rw [hya]; exact and_lt _ le
      have a6 : ne < 4294967296 := by omega
      have a7 : yb < 4294967296 := by rw [hyb]; exact and_lt _ a6
      have q3 := u32_and_eq e f ya hya le lf
      have q4 := u32_not' e le
      rw [← hne] at q4
      have q5 := u32_and_eq ne g' yb hyb a6 lg
      have q6 := u32_xor_eq ya yb yc (by rw [hyc, hya, hyb, hne]; rfl) a5 a7
      obtain ⟨t1, ht1⟩ : ∃ z, z = add32 h xb := ⟨_, rfl⟩
      obtain ⟨t2, ht2⟩ : ∃ z, z = add32 t1 yc := ⟨_, rfl⟩
      obtain ⟨t3, ht3⟩ : ∃ z, z = add32 t2 kk := ⟨_, rfl⟩
      obtain ⟨t4, ht4⟩ : ∃ z, z = add32 t3 wk := ⟨_, rfl⟩
      have p1 := u32_add_eq h xb t1 ht1
      have p2 := u32_add_eq t1 yc t2 ht2
      have p3 := u32_add_eq t2 kk t3 ht3
      have p4 := u32_add_eq t3 wk t4 ht4
      have p5 : ((t1 : Int) + (yc : Int) + (kk : Int) + (wk : Int)) % 4294967296 = (t4 : Int) := by rw [ht4, ht3, ht2]; unfold add32; omega
      have HT1 : Hid (t4 = V8.t1 ⟨a, b, c, d, e, f, g', h⟩ kk wk) := Lib.hid (by rw [ht4, ht3, ht2, ht1, hxb, hyc]; rfl)
      have lt4 : t4 < 4294967296 := by rw [ht4]; exact add32_lt _ _
      clear hxa hxb hya hne hyb hyc ht1 ht2 ht3 ht4
      go_wp2_with fail
      go_quiet ((go_at_call 159; exact Calls.quiet_of_same (right_any _ _ _ (by decide) (by decide) le)))
      clear p1 p2 p3 p4 q1 q2 q1' q2' a1 a2 a3
      obtain ⟨xc, hxc⟩ : ∃ z, z = rotr 2 a ^^^ rotr 13 a := ⟨_, rfl⟩
      obtain ⟨xd, hxd⟩ : ∃ z, z = bsig0 a := ⟨_, rfl⟩
      have a1 := @rotr_lt 2 a la (by decide) (by decide)
      have a2 := @rotr_lt 13 a la (by decide) (by decide)
      have a3 := @rotr_lt 22 a la (by decide) (by decide)
      have a8 : xc < 4294967296 := by rw [hxc]; exact xor_lt a1 a2
      have r1 := u32_xor_eq _ _ xc hxc a1 a2
      have r2 := u32_xor_eq xc _ xd (by rw [hxd, hxc]; rfl) a8 a3
      obtain ⟨za, hza⟩ : ∃ z, z = a &&& b := ⟨_, rfl⟩
      obtain ⟨zb, hzb⟩ : ∃ z, z = a &&& c := ⟨_, rfl⟩
      obtain ⟨zc, hzc⟩ : ∃ z, z = b &&& c := ⟨_, rfl⟩
      obtain ⟨zd, hzd⟩ : ∃ z, z = za ^^^ zb := ⟨_, rfl⟩
      obtain ⟨ze, hze⟩ : ∃ z, z = maj32 a b c := ⟨_, rfl⟩
      have b1 : za < 4294967296 := by rw [hza]; exact and_lt _ la
      have b2 : zb < 4294967296 := by rw [hzb]; exact and_lt _ la
      have b3 : zc < 4294967296 := by rw [hzc]; exact and_lt _ lb
      have b4 : zd < 4294967296 := by rw [hzd]; exact xor_lt b1 b2
      have r3 := u32_and_eq a b za hza la lb
      have r4 := u32_and_eq a c zb hzb la lc
      have r5 := u32_and_eq b c zc hzc lb lc
      have r6 := u32_xor_eq za zb zd hzd b1 b2
      have r7 := u32_xor_eq zd zc ze (by rw [hze, hzd, hza, hzb, hzc]; rfl) b4 b3
      obtain ⟨u2, hu2⟩ : ∃ z, z = add32 xd ze := ⟨_, rfl⟩
      obtain ⟨na, hna⟩ : ∃ z, z = add32 t4 u2 := ⟨_, rfl⟩
      obtain ⟨nd, hnd⟩ : ∃ z, z = add32 d t4 := ⟨_, rfl⟩
      have m1 := u32_add_mod xd ze u2 hu2
      have m2 := u32_add_mod t4 u2 na hna
      have m3 := u32_add_mod d t4 nd hnd
      have HR : Hid (V8.turn ks ws (k + 1) v = ⟨na, a, b, c, nd, e, f, g'⟩) := Lib.hid (by
        rw [HRD.out, hna, hnd, hu2, hxd, hze, HT1.out]
        rfl)
      clear hxc hxd hza hzb hzc hzd hze hu2 hna hnd
      go_wp2_with fail
      refine (right_calls a 2 _ la (by decide) (by decide)).mono ?_
      rintro e2 w2 ⟨rfl, rfl⟩
      go_wp2_with fail
      refine (right_calls a 13 _ la (by decide) (by decide)).mono ?_
      rintro e2 w2 ⟨rfl, rfl⟩
      go_wp2_with fail
      refine (right_calls a 22 _ la (by decide) (by decide)).mono ?_
      rintro e2 w2 ⟨rfl, rfl⟩
      go_wp2_with fail
      exact ⟨⟨k + 1, ⟨na, a, b, c, nd, e, f, g'⟩, by omega, by go_num, by first | rfl | rw [m2], rfl, rfl, rfl, by first | rfl | rw [m3], rfl, rfl, rfl, HR.out.symm, HCH.out.drewN nq⟩, by simp [intOf]; omega⟩
    · have e1 : (64 : Int) ≤ k := by omega
      obtain rfl : k = 64 := by omega
      have HBW := Lib.hid (HB.out.chg HCH.out (fun h => h))
      have hix := fun k hk w => index8 u k hk w
      have hfin := Lib.hid (addPart_end v u)
      have hcw : Hid (Chg (fun k => k = g) w wr) := Lib.hid (HCH.out.mono (fun _ _ h => h.elim))
      go_wp2_with fail
      go_loopw [17, 18, 127] (fun _ _ t wz => ∃ k : Nat, k ≤ 8 ∧ t = .int .i64 k ∧ Blk wz g 171 (u32s (addPart v u k)) ∧ Chg (fun k => k = g) w wz) (fun _ _ t _ => 8 - (intOf t).toNat)
      case atStart => exact ⟨0, Nat.zero_le _, rfl, HBW.out, hcw.out⟩
      case round =>
        obtain ⟨k, hk, rfl, h1, h2⟩ := hrel
        have H1 := Lib.hid h1
        have H2 := Lib.hid h2
        clear h1 h2
        by_cases hlt : k < 8
        · have e1 : (k : Int) < 8 := by omega
          have i0 := hix k hlt
          have hc : wr.cell? ⟨g, k, none⟩ = some (.int .u32 (v.l.getD k 0 : Nat)) := by
            rw [H1.out.cell, u32s_get _ _ (by rw [addPart_len]; omega), addPart_get _ _ _ hlt]
          have hf : wr.frozen? ⟨g, k, none⟩ = false := H1.out.frozen k
          obtain ⟨z, hz⟩ : ∃ z, z = add32 (v.l.getD k 0) (u.l.getD k 0) := ⟨_, rfl⟩
          have HN := Lib.hid (H1.out.set_ k (.int .u32 (z : Int)))
          rw [u32s_set, hz, addPart_set, ← hz] at HN
          have HC := Lib.hid (H2.out.setCell (p := ⟨g, k, none⟩) (fun _ => rfl) (.int .u32 (z : Int)))
          generalize v.l.getD k 0 = x at *
          generalize u.l.getD k 0 = y at *
          have p1 := u32_add_eq x y z hz
          clear hz hix
          go_wp2_with fail
          go_still_tail 9, (by kernel_rfl)
          change wpList _ _ _ _ _ (World.drew _)
          go_wp2_with fail
          refine ⟨?_, by simp [intOf]; omega⟩
          (repeat apply Exists.intro); exact ⟨⟨k + 1, by omega, by go_num, HN.out, HC.out.drew⟩, rfl⟩
        · have e1 : (8 : Int) ≤ k := by omega
          obtain rfl : k = 8 := by omega
          rw [hfin.out] at H1
          go_wp2_with fail
          go_end0
          exact ⟨rfl, by rw [← HU.out]; exact H1, H2⟩
end Go.Proofs.Ytmijlojjkgeplaa
