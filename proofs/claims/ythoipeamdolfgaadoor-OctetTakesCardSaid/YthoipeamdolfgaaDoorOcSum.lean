/- The check sum: the contract of octet.Sum. -/
import Derived.Test.YthoipeamdolfgaaDoorOcW
open Go Go.RowKit
namespace Go.Proofs.YthoipeamdolfgaaDoor
def crcT : List Nat := [0, 498536548, 997073096, 651767980, 1994146192, 1802195444, 1303535960, 1342533948, 3988292384, 4027552580, 3604390888, 3412177804, 2607071920, 2262029012, 2685067896, 3183342108]
def crc4 (s : Nat) : Nat := s / 16 ^^^ crcT.getD (s % 16) 0
def crcB (s : Nat) (b : UInt8) : Nat := crc4 (crc4 (s ^^^ b.toNat))
def crcL (s : Nat) (xs : List UInt8) : Nat := xs.foldl crcB s
theorem crcT_lt (i : Nat) : crcT.getD i 0 < 4294967296 := by
  rcases Nat.lt_or_ge i 16 with h | h
  · have : ∀ i, i < 16 → crcT.getD i 0 < 4294967296 := by decide
    exact this i h
  · rw [List.getD_eq_getElem?_getD, List.getElem?_eq_none (by simpa [crcT] using h)]; decide
theorem crc4_lt {s : Nat} (h : s < 4294967296) : crc4 s < 4294967296 := Nat.xor_lt_two_pow (n := 32) (by omega) (crcT_lt _)
theorem crcX_lt {s : Nat} (b : UInt8) (h : s < 4294967296) : s ^^^ b.toNat < 4294967296 := Nat.xor_lt_two_pow (n := 32) (by omega) (by have := b.toNat_lt; omega)
theorem crcB_lt {s : Nat} (b : UInt8) (h : s < 4294967296) : crcB s b < 4294967296 := crc4_lt (crc4_lt (crcX_lt b h))
theorem crcL_lt (xs : List UInt8) : ∀ s, s < 4294967296 → crcL s xs < 4294967296 := by
  induction xs with
  | nil => intro s h; exact h
  | cons b xs ih => intro s h; exact ih _ (crcB_lt b h)
theorem crcL_append (s : Nat) (xs ys : List UInt8) : crcL s (xs ++ ys) = crcL (crcL s xs) ys := List.foldl_append
theorem u32_not (a : Nat) (ha : a < 4294967296) : bits .xor .u32 4294967295 (a : Int) = ((4294967295 - a : Nat) : Int) := by
  rw [show (4294967295 : Int) = ((4294967295 : Nat) : Int) from rfl, u32_xor_nat _ a (by decide) ha]
  congr 1
  have h1 : (BitVec.ofNat 32 a).toNat = a := by simp [Nat.mod_eq_of_lt ha]
  have h2 : (BitVec.allOnes 32 ^^^ BitVec.ofNat 32 a).toNat = 4294967295 - a := by
    rw [BitVec.allOnes_xor, BitVec.toNat_not, h1]
  rw [BitVec.toNat_xor, h1] at h2
  exact h2
/-- the table lies in its variable -/
def TabOk (w : World) : Prop := ∀ i, i < 16 → w.cell? ⟨0, i, none⟩ = some (.int .u32 (crcT.getD i 0 : Nat))
theorem TabOk.chg {S : Nat → Prop} {w w' : World} (h : TabOk w) (hc : Chg S w w') (hS : ¬ S 0) : TabOk w' := fun i hi => hc.cell (h i hi) hS
def joined (l : List Row) : List UInt8 := l.flatMap (·.p)
theorem joined_snoc (l : List Row) (k : Nat) (h : k < l.length) : joined (l.take (k + 1)) = joined (l.take k) ++ l[k].p := by
  rw [List.take_succ_eq_append_getElem h]
  unfold joined
  rw [List.flatMap_append]
  simp only [List.flatMap_cons, List.flatMap_nil, List.append_nil]
theorem u32_xor_eq (a b x : Nat) (h : x = a ^^^ b) (ha : a < 4294967296) (hb : b < 4294967296) : bits .xor .u32 (a : Int) (b : Int) = (x : Int) := by rw [h]; exact u32_xor_nat a b ha hb
theorem u32_and15 (a : Nat) (ha : a < 4294967296) : bits .and .u32 (a : Int) 15 = ((a % 16 : Nat) : Int) := by
  rw [show (15 : Int) = ((15 : Nat) : Int) from rfl, u32_and_nat a 15 ha (by decide), nat_mask4]
set_option maxRecDepth 100000 in
set_option maxHeartbeats 400000 in
theorem Sum_calls (A : Option Addr) (n c : Nat) (l : List Row) (w : World) (hT : TabOk w) (hr : Rd w A (rowsV l)) (hn : l.length = n) (hrow : ∀ r ∈ l, Rd w r.A (bs r.p)) (hx : rowsSize l ≤ 900000000000) :
    Calls Tryd.prog 27 #[.slice A n c] w fun e w' => e = .returned (.int .u32 (4294967295 - crcL 4294967295 (joined l) : Nat)) ∧ w' = w := by
  have hsz := rowsSize_len l
  have HX := Lib.hid hx
  have HN := Lib.hid hn
  have HR := Lib.hid hr
  have HT := Lib.hid hT
  have HROW := Lib.hid hrow
  have hn9 : n ≤ 9223372036854775807 := by omega
  clear hx hn hr hT hrow hsz
  go_enter Tryd.func27, Tryd.ntmps27
  go_wp2
  go_loop [3, 10] (fun s t => ∃ (k : Nat), k ≤ n ∧ t = .int .i64 k ∧ s = .int .u32 (crcL 4294967295 (joined (l.take k)) : Nat)) (fun _ t => n - (intOf t).toNat)
  case atStart => exact ⟨0, Nat.zero_le _, rfl, rfl⟩
  case round =>
    obtain ⟨k, hk, rfl, rfl⟩ := hrel
    by_cases hlt : k < n
    · have e1 : (k : Int) < n := by omega
      have hkl : k < l.length := by have := HN.out; omega
      obtain ⟨ad, rfl, hc⟩ := HR.out k l[k].v (by simp [rowsV, hkl])
      have hmem : l[k] ∈ l := List.getElem_mem hkl
      have hq := HROW.out l[k] hmem
      have hm := rowsSize_mem hmem
      have hsn := joined_snoc l k hkl
      rcases hrk : l[k] with ⟨RA, rc, p⟩
      rw [hrk] at hc hq hm hsn
      have hc' : w.cell? (ad.add k) = some (.slice RA p.length rc) := hc
      have hq' : Rd w RA (bs p) := hq
      have hp9 : p.length ≤ 9223372036854775807 := by have := HX.out; simp at hm; omega
      have hs0 := crcL_lt (joined (l.take k)) 4294967295 (by decide)
      rw [show (⟨RA, rc, p⟩ : Row).p = p from rfl] at hsn
      have HSN := Lib.hid hsn
      have HQ := Lib.hid hq'
      generalize hs0e : crcL 4294967295 (joined (l.take k)) = s0 at *
      have HS0 := Lib.hid hs0e
      clear hs0e
      clear hc hq hq' hm hmem hkl hrk hsn
      go_wp2
      go_loop [3, 16] (fun s t => ∃ (j : Nat), j ≤ p.length ∧ t = .int .i64 j ∧ s = .int .u32 (crcL s0 (p.take j) : Nat)) (fun _ t => p.length - (intOf t).toNat)
      case atStart => exact ⟨0, Nat.zero_le _, rfl, rfl⟩
      case round =>
        obtain ⟨j, hj, rfl, rfl⟩ := hrel
        by_cases hlj : j < p.length
        · have e2 : (j : Int) < p.length := by omega
          obtain ⟨a2, b, rfl, hb, hcb⟩ := HQ.out.byte hlj
          have hs1 := crcL_lt (p.take j) s0 hs0
          generalize hs1e : crcL s0 (p.take j) = s1 at *
          have HS1 := Lib.hid hs1e.symm
          clear hs1e
          have hb8 := b.toNat_lt
          obtain ⟨x0, hx0⟩ : ∃ x0, x0 = s1 ^^^ b.toNat := ⟨_, rfl⟩
          have hx0l : x0 < 4294967296 := by rw [hx0]; exact crcX_lt b hs1
          have q1 := u32_xor_eq s1 b.toNat x0 hx0 hs1 (by omega)
          have q2 := u32_and15 x0 hx0l
          have c1 := HT.out (x0 % 16) (by omega)
          obtain ⟨t0, ht0⟩ : ∃ t0, t0 = crcT.getD (x0 % 16) 0 := ⟨_, rfl⟩
          have ht0l : t0 < 4294967296 := by rw [ht0]; exact crcT_lt _
          rw [← ht0] at c1
          obtain ⟨x1, hx1⟩ : ∃ x1, x1 = x0 / 16 ^^^ t0 := ⟨_, rfl⟩
          have hx1l : x1 < 4294967296 := by rw [hx1, ht0]; exact crc4_lt hx0l
          have q3 : bits .xor .u32 ((x0 : Int) / 16) (t0 : Int) = (x1 : Int) := by
            rw [show (x0 : Int) / 16 = ((x0 / 16 : Nat) : Int) from rfl]
            exact u32_xor_eq _ _ _ hx1 (by omega) ht0l
          have q4 := u32_and15 x1 hx1l
          have c2 := HT.out (x1 % 16) (by omega)
          obtain ⟨t1, ht1⟩ : ∃ t1, t1 = crcT.getD (x1 % 16) 0 := ⟨_, rfl⟩
          have ht1l : t1 < 4294967296 := by rw [ht1]; exact crcT_lt _
          rw [← ht1] at c2
          obtain ⟨x2, hx2⟩ : ∃ x2, x2 = x1 / 16 ^^^ t1 := ⟨_, rfl⟩
          have hx2l : x2 < 4294967296 := by rw [hx2, ht1]; exact crc4_lt hx1l
          have q5 : bits .xor .u32 ((x1 : Int) / 16) (t1 : Int) = (x2 : Int) := by
            rw [show (x1 : Int) / 16 = ((x1 / 16 : Nat) : Int) from rfl]
            exact u32_xor_eq _ _ _ hx2 (by omega) ht1l
          have hfin : x2 = crcB s1 b := by rw [hx2, ht1, hx1, ht0, hx0]; rfl
          have HFIN := Lib.hid hfin
          have HB := Lib.hid hb
          clear hx0 ht0 hx1 ht1 hx2 hfin hb
          go_wp2
          refine ⟨⟨j + 1, by omega, by go_num, ?_⟩, by simp [intOf]; omega⟩
          rw [HFIN.out, HS1.out, List.take_succ_eq_append_getElem hlj, crcL_append]
          have := HB.out
          rw [List.getElem?_eq_getElem hlj] at this
          injection this with this
          rw [this]
          rfl
        · have e2 : (p.length : Int) ≤ j := by omega
          go_wp2
          refine ⟨⟨k + 1, by omega, by go_num, ?_⟩, by simp [intOf]; omega⟩
          rw [HSN.out, crcL_append, HS0.out, List.take_of_length_le (by omega)]
    · have e1 : (n : Int) ≤ k := by omega
      have hs0 := crcL_lt (joined (l.take k)) 4294967295 (by decide)
      have hfin : joined (l.take k) = joined l := by rw [List.take_of_length_le (by have := HN.out; omega)]
      rw [hfin] at hs0 ⊢
      clear hfin
      have HE : Hid (bits .xor .u32 4294967295 (crcL 4294967295 (joined l) : Nat) = ((4294967295 - crcL 4294967295 (joined l) : Nat) : Int)) := Lib.hid (u32_not _ hs0)
      go_wp2
      go_ret
      refine ⟨?_, rfl⟩
      show Ending.returned (.int .u32 (bits .xor .u32 _ _)) = _
      rw [show IntKind.u32.max = 4294967295 from rfl, HE.out]
theorem crc_known (A B : Option Addr) (c d : Nat) : 4294967295 - crcL 4294967295 (joined [⟨A, c, [49, 50, 51, 52]⟩, ⟨B, d, [53, 54, 55, 56, 57]⟩]) = 3421780262 := by
  have h : joined [⟨A, c, [49, 50, 51, 52]⟩, ⟨B, d, [53, 54, 55, 56, 57]⟩] = [49, 50, 51, 52, 53, 54, 55, 56, 57] := rfl
  rw [h]
  decide +kernel
end Go.Proofs.YthoipeamdolfgaaDoor
