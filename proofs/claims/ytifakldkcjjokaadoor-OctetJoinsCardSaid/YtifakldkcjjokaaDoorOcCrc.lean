/- The check sum bit by bit is that of the table; a byte that is another one has another sum; the reference's Sum, octet.Join. -/
import Derived.Test.YtifakldkcjjokaaDoorOcHelp
import Derived.Test.YtifakldkcjjokaaDoorJoin
open Go Go.RowKit
namespace Go.Proofs.YtifakldkcjjokaaDoor
def crcStep (s : Nat) : Nat := if s % 2 = 1 then s / 2 ^^^ 3988292384 else s / 2
theorem crcStep_eq (s : Nat) : crcStep s = s / 2 ^^^ (if s % 2 = 1 then 3988292384 else 0) := by
  unfold crcStep
  split <;> simp
theorem crcStep_xor (a b : Nat) : crcStep (a ^^^ b) = crcStep a ^^^ crcStep b := by
  rw [crcStep_eq, crcStep_eq, crcStep_eq]
  have h1 : (a ^^^ b) / 2 = a / 2 ^^^ b / 2 := by
    have := Nat.shiftRight_xor_distrib (a := a) (b := b) (i := 1)
    simpa [Nat.shiftRight_eq_div_pow] using this
  have h2 : (a ^^^ b) % 2 = (a + b) % 2 := by
    have := @Nat.xor_mod_two_eq_one a b
    omega
  rw [h1, h2]
  rcases Nat.mod_two_eq_zero_or_one a with ha | ha <;> rcases Nat.mod_two_eq_zero_or_one b with hb | hb
  · rw [if_neg (by omega), if_neg (by omega), if_neg (by omega)]; simp
  · rw [if_pos (by omega), if_neg (by omega), if_pos (by omega)]; simp [Nat.xor_assoc]
  · rw [if_pos (by omega), if_pos (by omega), if_neg (by omega)]; simp only [Nat.xor_zero]; rw [Nat.xor_assoc, Nat.xor_assoc, Nat.xor_comm (b / 2)]
  · rw [if_neg (by omega), if_pos (by omega), if_pos (by omega)]
    simp only [Nat.xor_zero]
    rw [Nat.xor_assoc, ← Nat.xor_assoc 3988292384, Nat.xor_comm 3988292384 (b / 2), Nat.xor_assoc (b / 2), Nat.xor_self, Nat.xor_zero]
theorem crcStep_two (m : Nat) : crcStep (2 * m) = m := by
  unfold crcStep
  rw [if_neg (by omega)]
  omega
theorem split16 (s : Nat) : s = 16 * (s / 16) ^^^ s % 16 := by
  apply Nat.eq_of_testBit_eq
  intro i
  rw [Nat.testBit_xor, show 16 * (s / 16) = 2 ^ 4 * (s / 2 ^ 4) from rfl, show s % 16 = s % 2 ^ 4 from rfl, Nat.testBit_two_pow_mul, Nat.testBit_mod_two_pow, Nat.testBit_div_two_pow]
  by_cases h : 4 ≤ i
  · have h' : ¬ i < 4 := by omega
    simp [h, h', Nat.sub_add_cancel h]
  · have h' : i < 4 := by omega
    simp [h, h']
theorem crcStep4 (s : Nat) : crcStep (crcStep (crcStep (crcStep s))) = crc4 s := by
  conv => lhs; rw [split16 s]
  simp only [crcStep_xor]
  rw [show 16 * (s / 16) = 2 * (2 * (2 * (2 * (s / 16)))) by omega]
  simp only [crcStep_two]
  unfold crc4
  have h : ∀ r, r < 16 → crcStep (crcStep (crcStep (crcStep r))) = crcT.getD r 0 := by decide
  rw [h _ (Nat.mod_lt _ (by decide))]
def iterStep : Nat → Nat → Nat
  | 0, s => s
  | j + 1, s => crcStep (iterStep j s)
theorem iterStep8 (s : Nat) (b : UInt8) : iterStep 8 (s ^^^ b.toNat) = crcB s b := by
  unfold crcB
  rw [← crcStep4, ← crcStep4]
  rfl
theorem crcStep_lt {s : Nat} (h : s < 4294967296) : crcStep s < 4294967296 := by
  rw [crcStep_eq]
  exact Nat.xor_lt_two_pow (n := 32) (by omega) (by split <;> omega)
theorem iterStep_lt {s : Nat} (j : Nat) (h : s < 4294967296) : iterStep j s < 4294967296 := by
  induction j with
  | zero => exact h
  | succ j ih => exact crcStep_lt ih
theorem xor_cancel {a b c : Nat} (h : a ^^^ c = b ^^^ c) : a = b := by
  have h1 := congrArg (· ^^^ c) h
  simpa [Nat.xor_assoc] using h1
theorem crcT_top : ∀ i, i < 16 → ∀ j, j < 16 → crcT.getD i 0 / 268435456 = crcT.getD j 0 / 268435456 → i = j := by decide
theorem crc4_inj {a b : Nat} (ha : a < 4294967296) (hb : b < 4294967296) (h : crc4 a = crc4 b) : a = b := by
  have hd : ∀ x y : Nat, (x ^^^ y) / 268435456 = x / 268435456 ^^^ y / 268435456 := fun x y => by
    have := Nat.shiftRight_xor_distrib (a := x) (b := y) (i := 28)
    simpa [Nat.shiftRight_eq_div_pow] using this
  have h1 := congrArg (· / 268435456) h
  simp only [crc4, hd] at h1
  rw [show a / 16 / 268435456 = 0 by omega, show b / 16 / 268435456 = 0 by omega, Nat.zero_xor, Nat.zero_xor] at h1
  have h2 := crcT_top _ (Nat.mod_lt _ (by decide)) _ (Nat.mod_lt _ (by decide)) h1
  unfold crc4 at h
  rw [h2] at h
  have h3 := xor_cancel h
  omega
theorem crcB_inj {a b : Nat} {x y : UInt8} (ha : a < 4294967296) (hb : b < 4294967296) (h : crcB a x = crcB b y) : a ^^^ x.toNat = b ^^^ y.toNat :=
  crc4_inj (crcX_lt x ha) (crcX_lt y hb) (crc4_inj (crc4_lt (crcX_lt x ha)) (crc4_lt (crcX_lt y hb)) h)
theorem crcL_inj (xs : List UInt8) : ∀ {a b : Nat}, a < 4294967296 → b < 4294967296 → crcL a xs = crcL b xs → a = b := by
  induction xs with
  | nil => intro a b _ _ h; exact h
  | cons x xs ih =>
    intro a b ha hb h
    have h1 := ih (crcB_lt x ha) (crcB_lt x hb) h
    exact xor_cancel (crcB_inj ha hb h1)
theorem crcL_set (xs : List UInt8) (i : Nat) (y : UInt8) (s : Nat) (hs : s < 4294967296) (hi : i < xs.length) (hne : y ≠ xs[i]) : crcL s (xs.set i y) ≠ crcL s xs := by
  intro h
  have h1 : xs = xs.take i ++ xs[i] :: xs.drop (i + 1) := by
    rw [List.getElem_cons_drop, List.take_append_drop]
  have h2 : xs.set i y = xs.take i ++ y :: xs.drop (i + 1) := List.set_eq_take_append_cons_drop.trans (if_pos hi)
  rw [h2] at h
  conv at h => rhs; rw [h1]
  rw [crcL_append, crcL_append] at h
  have ht := crcL_lt (xs.take i) s hs
  have h3 : crcB (crcL s (xs.take i)) y = crcB (crcL s (xs.take i)) xs[i] := crcL_inj (xs.drop (i + 1)) (crcB_lt _ ht) (crcB_lt _ ht) h
  have h4 := crcB_inj ht ht h3
  rw [Nat.xor_comm _ y.toNat, Nat.xor_comm _ (xs[i]).toNat] at h4
  exact hne (UInt8.toNat_inj.1 (xor_cancel h4))
theorem u32_and1 (a : Nat) (ha : a < 4294967296) : bits .and .u32 (a : Int) 1 = ((a % 2 : Nat) : Int) := by
  rw [show (1 : Int) = ((1 : Nat) : Int) from rfl, u32_and_nat a 1 ha (by decide), Nat.and_one_is_mod]
theorem take_snoc' {α : Type} (l : List α) (k : Nat) (h : k < l.length) : l.take (k + 1) = l.take k ++ [l[k]] := List.take_succ_eq_append_getElem h
set_option maxRecDepth 100000 in
set_option maxHeartbeats 400000 in
theorem refSum_calls (A : Option Addr) (n c : Nat) (xs : List UInt8) (w : World) (hr : Rd w A (bs xs)) (hn : xs.length = n) (hx : n ≤ 9223372036854775807) :
    Calls Tryd.prog 39 #[.slice A n c] w fun e w' => e = .returned (.int .u32 (4294967295 - crcL 4294967295 xs : Nat)) ∧ w' = w := by
  have HR := Lib.hid hr
  have HN := Lib.hid hn
  clear hr hn
  go_enter Tryd.func39, Tryd.ntmps39
  go_wp2
  go_loop [3, 4] (fun s t => ∃ (k : Nat), k ≤ n ∧ t = .int .i64 k ∧ s = .int .u32 (crcL 4294967295 (xs.take k) : Nat)) (fun _ t => n - (intOf t).toNat)
  case atStart => exact ⟨0, Nat.zero_le _, rfl, rfl⟩
  case round =>
    obtain ⟨k, hk, rfl, rfl⟩ := hrel
    by_cases hlt : k < n
    · have e1 : (k : Int) < n := by omega
      have hkl : k < xs.length := by have := HN.out; omega
      obtain ⟨ad, b, rfl, hb, hcb⟩ := HR.out.byte hkl
      have hs1 := crcL_lt (xs.take k) 4294967295 (by decide)
      have hfin : crcL 4294967295 (xs.take (k + 1)) = iterStep 8 (crcL 4294967295 (xs.take k) ^^^ b.toNat) := by
        rw [take_snoc' xs k hkl, crcL_append, iterStep8]
        rw [List.getElem?_eq_getElem hkl] at hb
        injection hb with hb
        rw [hb]
        rfl
      generalize crcL 4294967295 (xs.take k) = s1 at *
      have hb8 := b.toNat_lt
      obtain ⟨x0, hx0⟩ : ∃ x0, x0 = s1 ^^^ b.toNat := ⟨_, rfl⟩
      have hx0l : x0 < 4294967296 := by rw [hx0]; exact crcX_lt b hs1
      have q1 := u32_xor_eq s1 b.toNat x0 hx0 hs1 (by omega)
      rw [← hx0] at hfin
      have HFIN := Lib.hid hfin
      clear hfin hb hx0 hkl
      go_wp2
      go_loop [3, 5] (fun s t => ∃ (j : Nat), j ≤ 8 ∧ t = .int .i64 j ∧ s = .int .u32 (iterStep j x0 : Nat)) (fun _ t => 8 - (intOf t).toNat)
      case atStart => exact ⟨0, Nat.zero_le _, rfl, rfl⟩
      case round =>
        obtain ⟨j, hj, rfl, rfl⟩ := hrel
        by_cases hlj : j < 8
        · have e2 : (j : Int) < 8 := by omega
          have hxl := iterStep_lt j hx0l
          have hst : iterStep (j + 1) x0 = crcStep (iterStep j x0) := rfl
          generalize iterStep j x0 = y at *
          have q2 := u32_and1 y hxl
          by_cases hodd : y % 2 = 1
          · rw [hodd] at q2
            have q3 : bits .xor .u32 ((y : Int) / 2) 3988292384 = ((y / 2 ^^^ 3988292384 : Nat) : Int) := by
              rw [show (y : Int) / 2 = ((y / 2 : Nat) : Int) from rfl]
              exact u32_xor_eq _ 3988292384 _ rfl (by omega) (by decide)
            have HS : Hid (iterStep (j + 1) x0 = y / 2 ^^^ 3988292384) := Lib.hid (by rw [hst]; unfold crcStep; rw [if_pos hodd])
            clear hst hodd
            go_wp2
            refine ⟨⟨j + 1, by omega, by go_num, by rw [HS.out]⟩, by simp [intOf]; omega⟩
          · have h0 : y % 2 = 0 := by omega
            rw [h0] at q2
            have HS : Hid (iterStep (j + 1) x0 = y / 2) := Lib.hid (by rw [hst]; unfold crcStep; rw [if_neg hodd])
            clear hst hodd h0
            go_wp2
            refine ⟨⟨j + 1, by omega, by go_num, by rw [HS.out]; rfl⟩, by simp [intOf]; omega⟩
        · have e2 : (8 : Int) ≤ j := by omega
          obtain rfl : j = 8 := by omega
          go_wp2
          refine ⟨⟨k + 1, by omega, by go_num, by rw [HFIN.out]⟩, by simp [intOf]; omega⟩
    · have e1 : (n : Int) ≤ k := by omega
      have hs0 := crcL_lt (xs.take k) 4294967295 (by decide)
      have hfin : xs.take k = xs := List.take_of_length_le (by have := HN.out; omega)
      rw [hfin] at hs0 ⊢
      clear hfin
      have HE : Hid (bits .xor .u32 4294967295 (crcL 4294967295 xs : Nat) = ((4294967295 - crcL 4294967295 xs : Nat) : Int)) := Lib.hid (u32_not _ hs0)
      go_wp2
      go_ret
      refine ⟨?_, rfl⟩
      show Ending.returned (.int .u32 (bits .xor .u32 _ _)) = _
      rw [show IntKind.u32.max = 4294967295 from rfl, HE.out]
theorem lens_rows (l : List Row) : Lib.lens (l.map (·.p)) ≤ rowsSize l := by
  induction l with
  | nil => simp [Lib.lens]
  | cons r l ih => simp only [Lib.lens, List.map_cons, List.sum_cons, rowsSize] at *; omega
theorem joined_flat (l : List Row) : (l.map (·.p)).flatten = joined l := by
  unfold joined
  rw [List.flatMap_def]
theorem Join_calls (A : Option Addr) (n c : Nat) (l : List Row) (w : World) (hr : Rd w A (rowsV l)) (hn : l.length = n) (hcap : n ≤ c) (hrow : RowsOk w l) (hx : rowsSize l ≤ 100000000000) :
    Calls Tryd.prog 37 #[.slice A n c] w fun e w' => ∃ A' n' c', e = .returned (.slice A' n' c') ∧ Hid (Room w' A' n' c' (joined l)) ∧ Hid (Chg nowhere w w') ∧ Hid (∀ ad, A' = some ad → w.heap.size ≤ ad.block) := by
  have HR := Lib.hid hr
  have HN := Lib.hid hn
  have HROW := Lib.hid hrow
  have HX := Lib.hid hx
  clear hr hn hrow hx
  go_enter Tryd.func37, Tryd.ntmps37
  go_wp2_with fail
  refine (bJoin_calls A n c l _ HR.out HN.out hcap HROW.out (by have := lens_rows l; have := HX.out; omega) (by have := rowsSize_len l; have := HX.out; have := HN.out; omega)).mono ?_
  rintro e w1 ⟨A', n', c', rfl, h1, h2, h3⟩
  rw [joined_flat] at h1
  go_wp2_with fail
  go_ret
  exact ⟨A', n', c', rfl, h1, h2, h3⟩
end Go.Proofs.YtifakldkcjjokaaDoor
