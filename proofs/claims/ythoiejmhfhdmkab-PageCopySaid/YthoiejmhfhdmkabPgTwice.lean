/- Programmed twice is programmed once (the law PageTwice). -/
import Derived.Test.YthoiejmhfhdmkabPgL
open Go Go.RowKit
namespace Go.Proofs.Ythoiejmhfhdmkab
theorem u8_andNot_zero (z x : UInt8) (h : z &&& x = z) : bits .andNot .u8 (z.toNat : Int) (x.toNat : Int) = 0 := by
  have h1 := z.toNat_lt
  have h2 := x.toNat_lt
  rw [u8_andNot_nat _ _ (by omega) (by omega)]
  have h3 : z.toNat &&& x.toNat = z.toNat := by rw [← UInt8.toNat_and, h]
  have h4 : z.toNat &&& (255 - x.toNat) = 0 := by
    apply Nat.eq_of_testBit_eq
    intro i
    rw [Nat.testBit_and, show 255 - x.toNat = 2 ^ 8 - (x.toNat + 1) by omega, Nat.testBit_two_pow_sub_succ (by omega), Nat.zero_testBit]
    have h5 := congrArg (fun n => Nat.testBit n i) h3
    simp only [Nat.testBit_and] at h5
    rcases hz : z.toNat.testBit i with _ | _
    · rfl
    · rw [hz] at h5
      simp only [Bool.true_and] at h5
      rw [h5]
      simp
  rw [h4]
  rfl
theorem prog_below {pg b : List UInt8} {i : Nat} {z x : UInt8} (h : pg.length = 64) (hb : b.length ≤ 64) (hz : (prog pg b)[i]? = some z) (hx : pg[i]? = some x) : z &&& x = z := by
  unfold prog at hz
  have h1 : (fall (pg.take b.length) b).length = b.length := by simp [fall]; omega
  rcases Nat.lt_or_ge i b.length with hi | hi
  · rw [List.getElem?_append_left (by omega)] at hz
    unfold fall at hz
    rw [List.getElem?_zipWith, List.getElem?_take, if_pos hi, hx, List.getElem?_eq_getElem hi] at hz
    injection hz with hz
    rw [← hz, UInt8.and_assoc, UInt8.and_comm b[i] x, ← UInt8.and_assoc, UInt8.and_self]
  · rw [List.getElem?_append_right (by omega), h1, List.getElem?_drop, Nat.add_sub_cancel' hi, hx] at hz
    injection hz with hz
    rw [hz, UInt8.and_self]
/-- a flash that works, with these pages -/
structure Live (w : World) (g p N : Nat) (ps : List UInt8) : Prop where
  at_ : ∃ s : FS, FlashAt w g p N s ∧ s.pages = ps ∧ s.dead = false ∧ s.fused = false ∧ s.cap = N
def pageOf (ps : List UInt8) (i : Nat) : List UInt8 := (ps.drop (i * 64)).take 64
theorem Live.lts {w : World} {g p N : Nat} {ps : List UInt8} (h : Live w g p N ps) : g < w.heap.size ∧ p < w.heap.size ∧ ps.length = 64 * N := by
  obtain ⟨s, hs, rfl, _, _, h4⟩ := h.at_
  exact ⟨hs.head.lt, Blk.lt hs.body, by rw [hs.ok.len, h4]⟩
theorem Live.calm {w w' : World} {g p N : Nat} {ps : List UInt8} (h : Live w g p N ps) (hc : Chg nowhere w w') : Live w' g p N ps := by
  obtain ⟨s, hs, h1, h2, h3⟩ := h.at_
  exact ⟨s, hs.calm hc, h1, h2, h3⟩
theorem Live.far {S : Nat → Prop} {w w' : World} {g p N : Nat} {ps : List UInt8} (h : Live w g p N ps) (hc : Chg S w w') (hg : ¬ S g) (hp : ¬ S p) : Live w' g p N ps := by
  obtain ⟨s, hs, h1, h2, h3⟩ := h.at_
  exact ⟨s, hs.chg hc hg hp, h1, h2, h3⟩
theorem Live.new {w : World} {g p N : Nat} (h : FlashAt w g p N (FS.fresh N)) : Live w g p N (ones (64 * N)) := ⟨_, h, rfl, rfl, rfl, rfl⟩
theorem Live_program (g p N : Nat) (ps : List UInt8) (i : Nat) (B : Option Addr) (nb cb : Nat) (ys : List UInt8) (w : World) (h : Live w g p N ps) (hi : i < N) (hy : Rd w B (bs ys)) (hyn : ys.length = nb) (hB : Apart (Two g p) B (bs ys)) (hn : nb ≤ 64) :
    Calls Try.prog 9 #[.pointer (some ⟨g, 0, none⟩), .int .i64 i, .slice B nb cb] w fun e w' => e = .returned (.int .i64 0) ∧ Hid (Live w' g p N (prD ys ps (i * 64) ys.length)) ∧ Hid (Chg (Two g p) w w') := by
  obtain ⟨s, hs, rfl, h2, h3⟩ := h.at_
  refine (Program_calls g p N s i B nb cb ys w hs hy hyn hB (by omega)).mono ?_
  rintro e w' ⟨rfl, h4, h5⟩
  rw [FS.change_plain h2 h3.1 hi hn] at h4 ⊢
  exact ⟨rfl, ⟨_, h4.out, by rw [hyn], h2, h3⟩, h5⟩
theorem Live_erase (g p N : Nat) (ps : List UInt8) (i : Nat) (w : World) (h : Live w g p N ps) (hi : i < N) :
    Calls Try.prog 13 #[.pointer (some ⟨g, 0, none⟩), .int .i64 i] w fun e w' => e = .returned (.int .i64 0) ∧ Hid (Live w' g p N (erD ps (i * 64) 64)) ∧ Hid (Chg (Two g p) w w') := by
  obtain ⟨s, hs, rfl, h2, h3⟩ := h.at_
  refine (Erase_calls g p N s i w hs).mono ?_
  rintro e w' ⟨rfl, h4, h5⟩
  rw [FS.change_plain h2 h3.1 hi (by decide)] at h4 ⊢
  exact ⟨rfl, ⟨_, h4.out, rfl, h2, h3⟩, h5⟩
theorem Live_read (g p N : Nat) (ps : List UInt8) (i : Nat) (w : World) (h : Live w g p N ps) (hi : i < N) :
    Calls Try.prog 10 #[.pointer (some ⟨g, 0, none⟩), .int .i64 i] w fun e w' => ∃ gb c, e = .returned (.tuple #[.slice (some ⟨gb, 0, none⟩) 64 c, .int .i64 0]) ∧ Hid (Own w' 5 1 (some ⟨gb, 0, none⟩) 64 c (bs (pageOf ps i))) ∧
      Hid (Chg nowhere w w') ∧ Hid (w.heap.size ≤ gb) := by
  obtain ⟨s, hs, rfl, h2, h3⟩ := h.at_
  refine (Read_yes g p N s i w hs hi).mono ?_
  rintro e w' ⟨A, c, rfl, h4, h5, h6⟩
  rcases h4.out.form with ⟨_, h, _⟩ | ⟨gb, cur, rfl, _⟩
  · cases h
  · exact ⟨gb, c, rfl, h4, h5, h6.out _ rfl⟩
theorem pageOf_len {ps : List UInt8} {N i : Nat} (h : ps.length = 64 * N) (hi : i < N) : (pageOf ps i).length = 64 := by simp [pageOf]; omega
theorem pageOf_prD {ps b : List UInt8} {N i : Nat} (h : ps.length = 64 * N) (hi : i < N) (hb : b.length ≤ 64) : pageOf (prD b ps (i * 64) b.length) i = prog (pageOf ps i) b :=
  prD_page (s := ⟨ps, false, false, 0, 0, 0⟩) h hi hb
theorem pageOf_prD_other {ps b : List UInt8} {N i j : Nat} (h : ps.length = 64 * N) (hi : i < N) (hb : b.length ≤ 64) (hj : j ≠ i) : pageOf (prD b ps (i * 64) b.length) j = pageOf ps j :=
  prD_other (s := ⟨ps, false, false, 0, 0, 0⟩) h hi hb hj
theorem pageOf_erD {ps : List UInt8} {N i : Nat} (h : ps.length = 64 * N) (hi : i < N) : pageOf (erD ps (i * 64) 64) i = ones 64 := erD_page (s := ⟨ps, false, false, 0, 0, 0⟩) h hi
theorem pageOf_erD_other {ps : List UInt8} {N i j : Nat} (h : ps.length = 64 * N) (hi : i < N) (hj : j ≠ i) : pageOf (erD ps (i * 64) 64) j = pageOf ps j := erD_other (s := ⟨ps, false, false, 0, 0, 0⟩) h hi hj
set_option maxRecDepth 100000 in
set_option maxHeartbeats 1600000 in
theorem pageTwice_calls (A : Option Addr) (n c : Nat) (xs : List UInt8) (B : Option Addr) (m d : Nat) (ys : List UInt8) (w : World) (ha : Rd w A (bs xs)) (hn : xs.length = n) (hb : Rd w B (bs ys)) (hm : ys.length = m) (hn9 : n ≤ 9223372036854775807) (hm9 : m ≤ 9223372036854775807) :
    Calls Try.prog 3 #[.slice A n c, .slice B m d] w fun e w' => e = .returned (.bool true) ∧ Chg nowhere w w' := by
  have HA := Lib.hid ha
  have HB := Lib.hid hb
  have HN := Lib.hid hn
  have HM := Lib.hid hm
  clear ha hb hn hm
  by_cases h1 : 64 < n
  · have e1 : (64 : Int) < n := by omega
    go_enter Try.func3, Try.ntmps3
    go_wp2_with fail
    go_ret
    exact ⟨rfl, Chg.refl _ _⟩
  · by_cases h2 : 64 < m
    · have e1 : ¬ (64 : Int) < n := by omega
      have e2 : (64 : Int) < m := by omega
      go_enter Try.func3, Try.ntmps3
      go_wp2_with fail
      go_ret
      exact ⟨rfl, Chg.refl _ _⟩
    · have e1 : ¬ (64 : Int) < n := by omega
      have e2 : ¬ (64 : Int) < m := by omega
      go_enter Try.func3, Try.ntmps3
      go_wp2_with fail
      refine (New_calls 1 _ (by decide) (by decide)).mono ?_
      rintro e w1 ⟨g, p, rfl, k1, hc1, hg, hp⟩
      have HL1 := Lib.hid (Live.new k1.out)
      have HC1 := hc1
      have hlen1 := HL1.out.lts.2.2
      have HTWO : Hid (∀ x, Two g p x → w.heap.size ≤ x) := Lib.hid (by rintro x (rfl | rfl) <;> assumption)
      clear k1 hc1
      go_wp2_with fail
      refine (Live_program g p 1 _ 0 A n c xs _ HL1.out (by decide) (HA.out.later HC1.out) HN.out (HA.out.apart HTWO.out) (by omega)).mono ?_
      rintro e w2 ⟨rfl, k2, c2⟩
      have HC2 := Lib.hid (HC1.out.step c2.out HTWO.out)
      clear c2
      go_wp2_with fail
      refine (Live_read g p 1 _ 0 _ k2.out (by decide)).mono ?_
      rintro e w3 ⟨gx, cx, rfl, ox, c3, hgx⟩
      have HC3 := Lib.hid (HC2.out.step c3.out (fun _ h => h.elim))
      have HL3 := Lib.hid (k2.out.calm c3.out)
      rw [pageOf_prD hlen1 (by decide) (by have := HN.out; omega)] at ox
      have hp1 : (pageOf (ones (64 * 1)) 0).length = 64 := pageOf_len hlen1 (by decide)
      clear c3
      go_wp2_with fail
      have hlen3 := HL3.out.lts.2.2
      refine (Live_program g p 1 _ 0 A n c xs _ HL3.out (by decide) (HA.out.later HC3.out) HN.out (HA.out.apart HTWO.out) (by omega)).mono ?_
      rintro e w4 ⟨rfl, k4, c4⟩
      have HC4 := Lib.hid (HC3.out.step c4.out HTWO.out)
      have HX4 := Lib.hid (ox.out.chg c4.out (by
        intro ad e hT
        injection e with e; subst e
        have h1 := hgx.out
        have h2 := k2.out.lts
        rcases hT with h | h <;> (have h' : gx = _ := h; omega)))
      clear c4
      go_wp2_with fail
      refine (Live_read g p 1 _ 0 _ k4.out (by decide)).mono ?_
      rintro e w5 ⟨gy, cy, rfl, oy, c5, hgy⟩
      have HC5 := Lib.hid (HC4.out.step c5.out (fun _ h => h.elim))
      have HL5 := Lib.hid (k4.out.calm c5.out)
      rw [pageOf_prD hlen3 (by decide) (by have := HN.out; omega), pageOf_prD hlen1 (by decide) (by have := HN.out; omega), prog_twice hp1 (by have := HN.out; omega)] at oy
      have HX5 := Lib.hid (HX4.out.chg c5.out (fun _ _ h => h))
      clear c5 HX4
      go_wp2_with fail
      have hlen5 := HL5.out.lts.2.2
      refine (Live_program g p 1 _ 0 B m d ys _ HL5.out (by decide) (HB.out.later HC5.out) HM.out (HB.out.apart HTWO.out) (by omega)).mono ?_
      rintro e w6 ⟨rfl, k6, c6⟩
      have HC6 := Lib.hid (HC5.out.step c6.out HTWO.out)
      have hTX : ∀ ad, (some ⟨gx, 0, none⟩ : Option Addr) = some ad → ¬ Two g p ad.block := by
        intro ad e hT
        injection e with e; subst e
        have h1 := hgx.out
        have h2 := k2.out.lts
        rcases hT with h | h <;> (have h' : gx = _ := h; omega)
      have hTY : ∀ ad, (some ⟨gy, 0, none⟩ : Option Addr) = some ad → ¬ Two g p ad.block := by
        intro ad e hT
        injection e with e; subst e
        have h1 := hgy.out
        have h2 := k4.out.lts
        rcases hT with h | h <;> (have h' : gy = _ := h; omega)
      have HX6 := Lib.hid (HX5.out.chg c6.out hTX)
      have HY6 := Lib.hid (oy.out.chg c6.out hTY)
      clear c6 HX5 hTX hTY
      go_wp2_with fail
      refine (Live_read g p 1 _ 0 _ k6.out (by decide)).mono ?_
      rintro e w7 ⟨gz, cz, rfl, oz, c7, hgz⟩
      have HC7 := Lib.hid (HC6.out.step c7.out (fun _ h => h.elim))
      rw [pageOf_prD hlen5 (by decide) (by have := HM.out; omega), pageOf_prD hlen3 (by decide) (by have := HN.out; omega), pageOf_prD hlen1 (by decide) (by have := HN.out; omega), prog_twice hp1 (by have := HN.out; omega)] at oz
      have HX7 := Lib.hid (HX6.out.chg c7.out (fun _ _ h => h))
      have HY7 := Lib.hid (HY6.out.chg c7.out (fun _ _ h => h))
      have hpl := prog_len hp1 (b := xs) (by have := HN.out; omega)
      have hzl := prog_len hpl (b := ys) (by have := HM.out; omega)
      generalize prog (pageOf (ones (64 * 1)) 0) xs = px at *
      have cvx := conv_own HX7.out hpl
      have cvy := conv_own HY7.out hpl
      clear c7 HX6 HY6
      go_wp2_with fail
      have HPX := Lib.hid hpl
      have HZX := Lib.hid hzl
      clear cvx cvy HY7 hpl hzl
      go_loopw [12] (fun t wr => ∃ k : Nat, k ≤ 64 ∧ t = .int .i64 k ∧ ∃ q, wr = w7.drewN q) (fun t _ => 64 - (intOf t).toNat)
      case atStart => exact ⟨0, Nat.zero_le _, rfl, 0, rfl⟩
      case round =>
        obtain ⟨k, hk, rfl, q, rfl⟩ := hrel
        by_cases hlt : k < 64
        · have f1 : (k : Int) < 64 := by omega
          have f0 : (0 : Int) ≤ k := by omega
          obtain ⟨az, z, ez, hz, hcz⟩ := oz.out.rd.byte (k := k) (by have := HZX.out; omega)
          obtain ⟨ax, x, ex, hx, hcx⟩ := HX7.out.rd.byte (k := k) (by have := HPX.out; omega)
          injection ez with ez
          injection ex with ex
          subst ez; subst ex
          rw [add_row] at hcz hcx
          have q1 := u8_andNot_zero z x (prog_below HPX.out (by have := HM.out; omega) hz hx)
          clear hz hx
          go_wp2_with fail
          go_quiet (fail)
          go_wp2_with fail
          exact ⟨⟨k + 1, by omega, by go_num, q + nq, rfl⟩, by simp [intOf]; omega⟩
        · have f1 : (64 : Int) ≤ k := by omega
          go_wp2_with fail
          refine (pgKnown_calls _).mono ?_
          rintro e w9 ⟨rfl, h9⟩
          have HC9 := Lib.hid ((HC7.out.drewN q).step h9.out (fun _ h => h.elim))
          go_wp2_with fail
          go_ret
          exact ⟨rfl, HC9.out⟩
end Go.Proofs.Ythoiejmhfhdmkab
