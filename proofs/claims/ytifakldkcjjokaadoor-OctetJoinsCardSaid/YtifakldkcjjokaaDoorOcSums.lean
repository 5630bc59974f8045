/- The check sum of rows (the law OctetSums). -/
import Derived.Test.YtifakldkcjjokaaDoorOcCrc
import Derived.Test.YtifakldkcjjokaaDoorOcNums
open Go Go.RowKit
namespace Go.Proofs.YtifakldkcjjokaaDoor
theorem joined_len (l : List Row) : (joined l).length ≤ heavySum l := by
  induction l with
  | nil => simp [joined, heavySum]
  | cons r l ih =>
    unfold joined at *
    rw [List.flatMap_cons, List.length_append, heavySum]
    omega
theorem heavySum_take (l : List Row) (k : Nat) : heavySum (l.take k) ≤ heavySum l := by
  induction l generalizing k with
  | nil => simp
  | cons r l ih =>
    cases k with
    | zero => simp [heavySum]
    | succ k =>
      have := ih k
      simp only [List.take_succ_cons, heavySum]
      omega
theorem joined_one (A : Option Addr) (c : Nat) (p : List UInt8) : joined [⟨A, c, p⟩] = p := by simp [joined]
theorem i64_and30' (a : Int) : bits .and .i64 a 1073741823 = a % 1073741824 := by
  show IntKind.i64.wrap ((BitVec.ofInt 64 a &&& BitVec.ofInt 64 1073741823).toNat : Int) = _
  have h1 : (BitVec.ofInt 64 1073741823).toNat = 2 ^ 30 - 1 := by decide
  rw [BitVec.toNat_and, h1, Nat.and_two_pow_sub_one_eq_mod, BitVec.toNat_ofInt, IntKind.wrap_i64]
  omega
theorem u8_xor_nat' (a b : UInt8) : bits .xor .u8 (a.toNat : Int) (b.toNat : Int) = ((a ^^^ b).toNat : Int) := by
  show IntKind.u8.wrap (((BitVec.ofInt 8 (a.toNat : Int)) ^^^ (BitVec.ofInt 8 (b.toNat : Int))).toNat : Int) = _
  rw [BitVec.toNat_xor, BitVec.toNat_ofInt, BitVec.toNat_ofInt, UInt8.toNat_xor]
  have ha := a.toNat_lt
  have hb := b.toNat_lt
  have e1 : ((a.toNat : Int) % ((2 ^ 8 : Nat) : Int)).toNat = a.toNat := by omega
  have e2 : ((b.toNat : Int) % ((2 ^ 8 : Nat) : Int)).toNat = b.toNat := by omega
  rw [e1, e2]
  have h3 : a.toNat ^^^ b.toNat < 2 ^ 8 := Nat.xor_lt_two_pow (by omega) (by omega)
  simp [IntKind.wrap, IntKind.bits, IntKind.signed]
  omega
theorem u8_xor_ne (a b : UInt8) (h : b ≠ 0) : a ^^^ b ≠ a := by
  intro h1
  have h2 : a ^^^ (a ^^^ b) = a ^^^ a := by rw [h1]
  rw [← UInt8.xor_assoc, UInt8.xor_self, UInt8.zero_xor] at h2
  exact h h2
theorem Own.setByte {w : World} {g n c : Nat} {xs : List UInt8} (h : Own w 5 1 (some ⟨g, 0, none⟩) n c (bs xs)) (i : Nat) (y : UInt8) : Own (w.setCell ⟨g, i, none⟩ (.int .u8 y.toNat)) 5 1 (some ⟨g, 0, none⟩) n c (bs (xs.set i y)) := by
  rcases h.form with ⟨h0, _⟩ | ⟨g', cur, e, hb, h3, h4, h5, h6⟩
  · cases h0
  · injection e with e
    injection e with e
    subst e
    refine Own.of_blk (hb.set_ i _) h3 h4 (by simpa using h5) ?_
    rw [Array.toList_setIfInBounds, List.take_set, h6]
    unfold bs
    rw [List.map_set]
    rfl
set_option maxRecDepth 100000 in
set_option maxHeartbeats 800000 in
theorem octetSums_calls (A : Option Addr) (n c : Nat) (l : List Row) (at_ : Int) (by_ : UInt8) (w : World) (hT : TabOk w) (hr : Rd w A (rowsV l)) (hn : l.length = n) (hcap : n ≤ c) (hmax : n ≤ 9223372036854775807) (hrow : RowsOk w l) (hrl : ∀ r ∈ l, r.p.length ≤ 9223372036854775807) :
    Calls Tryd.prog 6 #[.slice A n c, .int .i64 at_, .int .u8 by_.toNat] w fun e w' => e = .returned (.bool true) ∧ Chg nowhere w w' := by
  have HT := Lib.hid hT
  have HR := Lib.hid hr
  have HN := Lib.hid hn
  have HRL := Lib.hid hrl
  have HROW := Lib.hid hrow
  clear hT hr hn hrl hrow
  go_enter Tryd.func6, Tryd.ntmps6
  go_wp2_with fail
  refine (heavyRows_calls A n c l _ HR.out HN.out hmax HRL.out).mono ?_
  rintro e w1 ⟨⟨b, rfl, hb⟩, rfl⟩
  rcases b with _ | _
  · have hheavy := hb.out rfl
    have hsz := rowsSize_heavy l
    have hlen3 := heavySum_len l
    have hn4 : n ≤ 4000 := by have := HN.out; omega
    have HSZ : Hid (rowsSize l ≤ 16000) := Lib.hid (by omega)
    have HJ : Hid (∀ k, (joined (l.take k)).length ≤ 4000) := Lib.hid (fun k => by
      have h1 := joined_len (l.take k)
      have h2 := heavySum_take l k
      omega)
    clear hb hheavy hsz hlen3
    go_wp2_with fail
    refine (Join_calls A n c l _ HR.out HN.out hcap HROW.out (by have := HSZ.out; omega)).mono ?_
    rintro e w2 ⟨A2, n2, c2, rfl, h1, h2, h3⟩
    have HRM := Lib.hid h1.out.rd
    have HN2 := Lib.hid h1.out.len
    have HC2 := Lib.hid h2.out
    have HG2 := Lib.hid h3.out
    clear h1 h2 h3
    go_wp2_with fail
    go_loopw [8, 9] (fun a t wr => ∃ (k : Nat) (A1 : Option Addr) (n1 c1 : Nat), k ≤ n ∧ t = .int .i64 k ∧ a = .slice A1 n1 c1 ∧ Fresh w2 wr A1 n1 c1 (joined (l.take k))) (fun _ t _ => n - (intOf t).toNat)
    case atStart => exact ⟨0, none, 0, 0, Nat.zero_le _, rfl, rfl, Fresh.nil _⟩
    case round =>
      obtain ⟨k, A1, n1, c1, hk, rfl, rfl, hF⟩ := hrel
      have HF := Lib.hid hF
      clear hF
      have HC1 := Lib.hid (HC2.out.step HF.out.chg (fun _ h => h.elim))
      by_cases hlt : k < n
      · have e1 : (k : Int) < n := by omega
        have hkl : k < l.length := by have := HN.out; omega
        obtain ⟨ad, rfl, hc⟩ := (HR.out.later HC1.out) k l[k].v (by simp [rowsV, hkl])
        have hsn := joined_snoc l k hkl
        have hmem := List.getElem_mem hkl
        have hq := (HROW.out _ hmem).later HC1.out
        have hb1 := HJ.out (k + 1)
        rcases hrk : l[k] with ⟨RA, rc, p⟩
        rw [hrk] at hc hsn hq
        have hc' : wr.cell? (ad.add k) = some (.slice RA p.length rc) := hc
        have HQ : Hid (Rd wr RA (bs p)) := Lib.hid hq
        have HSN : Hid (joined (l.take (k + 1)) = joined (l.take k) ++ p) := Lib.hid hsn
        have HM : Hid ((bs p).length = p.length) := Lib.hid (bs_length p)
        have HB : Hid (n1 + p.length ≤ lim) := hid_lim (by
          rw [HSN.out] at hb1
          simp at hb1
          have := HF.out.len
          omega)
        clear hc hq hsn hmem hrk hkl hb1
        go_wp2_with (at_builtin; refine wpList_append_many rfl (.tmp 21) (.tmp 25) elemB rfl (Nat.le_refl _) rfl HF.out.own rfl HQ.out HM (bs_one _) HB ?_)
        intro A3 c3 w3 hown3 hchg3 hA3
        rw [bs_append, ← HSN.out] at hown3
        have HP := Lib.hid (HF.out.push (Chg.refl nowhere _) hchg3 hown3 (by rw [HF.out.len, HSN.out]; simp) (hA3.imp id fun h => ⟨_, h, Nat.le_refl _⟩))
        clear hown3 hchg3 hA3
        go_wp2_with fail
        exact ⟨⟨k + 1, A3, n1 + p.length, c3, by omega, by go_num, rfl, HP.out⟩, by simp [intOf]; omega⟩
      · have e1 : (n : Int) ≤ k := by omega
        have hall : l.take k = l := List.take_of_length_le (by have := HN.out; omega)
        have hE := HJ.out k
        rw [hall] at HF hE
        have HE := Lib.hid hE
        have HN1 := Lib.hid HF.out.len
        have HSUM : Hid (joined [⟨A1, c1, joined l⟩] = joined l) := Lib.hid (joined_one _ _ _)
        have hn1 : n1 ≤ 4000 := by have := HN1.out; omega
        obtain ⟨S0, hS0⟩ : ∃ S0, S0 = 4294967295 - crcL 4294967295 (joined l) := ⟨_, rfl⟩
        have HS0 := Lib.hid hS0
        clear hall hE hS0
        go_wp2_with fail
        refine (Sum_calls A n c l _ (HT.out.chg HC1.out (fun h => h)) (HR.out.later HC1.out) HN.out (fun r hr => (HROW.out r hr).later HC1.out) (by have := HSZ.out; omega)).mono ?_
        rintro e w3 ⟨rfl, rfl⟩
        rw [← HS0.out]
        go_wp2_with fail
        refine (same_calls A2 A1 n2 n1 c2 c1 (joined l) (joined l) _ HN2.out HN1.out.symm (by have := HN2.out; have := HE.out; omega) (HRM.out.later HF.out.chg) HF.out.own.rd).mono ?_
        rintro e w4 ⟨he, hw4⟩
        rw [decide_eq_true rfl] at he
        subst he
        have HC34 : Hid (Chg nowhere w3 w4) := by
          obtain ⟨z, rfl⟩ := hw4
          exact (Chg.refl _ _).drewN z
        clear hw4
        have HO4 := Lib.hid (HF.out.own.chg HC34.out (fun _ _ h => h))
        have HC4 := Lib.hid (HC1.out.step HC34.out (fun _ h => h.elim))
        go_wp2_with fail
        refine (refSum_calls A1 n1 c1 (joined l) _ HO4.out.rd HN1.out.symm (by omega)).mono ?_
        rintro e w5 ⟨rfl, rfl⟩
        rw [← HS0.out]
        go_wp2_with fail
        refine (Sum_calls _ _ _ [⟨A1, c1, joined l⟩] _ ((HT.out.chg HC4.out (fun h => h)).chg ((Chg.refl nowhere _).alloc _) (fun h => h)) ?_ rfl ?_ ?_).mono ?_
        · rw [HN1.out]; exact Rd.lit _ [_] _
        · intro r hr
          rw [List.mem_singleton.1 hr]
          exact HO4.out.rd.alloc _
        · have := HE.out; simp [rowsSize]; omega
        rintro e w6 ⟨rfl, rfl⟩
        rw [HSUM.out, ← HS0.out]
        have HC6 := Lib.hid (HC4.out.alloc (.cells #[.slice A1 n1 c1] 23))
        have HO6 := Lib.hid (HO4.out.alloc (.cells #[.slice A1 n1 c1] 23))
        have HKN : Hid (∀ wz, Chg nowhere w1 wz → TabOk wz) := Lib.hid (fun wz h => HT.out.chg h (fun h => h))
        by_cases h0 : 0 < n1
        · have e3 : (0 : Int) < n1 := by omega
          by_cases hb0 : by_ = 0
          · subst hb0
            go_wp2_with fail
            refine (known_calls _ (HKN.out _ HC6.out)).mono ?_
            rintro e w15 ⟨rfl, h15⟩
            have HC15 := Lib.hid (HC6.out.step h15 (fun _ h => h.elim))
            clear h15
            go_wp2_with fail
            go_ret
            exact ⟨rfl, HC15.out⟩
          · have hbn : ((by_.toNat : Int) != 0) = true := by
              rw [bne_iff_ne]
              intro h
              exact hb0 (UInt8.toNat_inj.1 (by simpa using h))
            have q1 := i64_and30' at_
            obtain ⟨m, hm⟩ : ∃ m : Nat, at_ % 1073741824 = m := ⟨(at_ % 1073741824).toNat, by omega⟩
            rw [hm] at q1
            have hm9 : m ≤ 1073741824 := by omega
            obtain ⟨i, hi⟩ : ∃ i, i = m % n1 := ⟨_, rfl⟩
            have q2 : ((m : Int) % (n1 : Int)) = (i : Int) := by rw [hi]; rfl
            have hin : i < n1 := by rw [hi]; exact Nat.mod_lt _ h0
            have hil : i < (joined l).length := by have := HN1.out; omega
            rcases HO6.out.form with ⟨_, h00, _⟩ | ⟨g, cur, rfl, hblk, hf3, hf4, hf5, hf6⟩
            · omega
            obtain ⟨ad, x, e, hx, hcx⟩ := HO6.out.rd.byte hil
            injection e with e
            subst e
            rw [add_row] at hcx
            have hfx := hblk.frozen i
            have hx' : x = (joined l)[i] := by
              rw [List.getElem?_eq_getElem hil] at hx
              injection hx with hx
              exact hx.symm
            obtain ⟨y, hy⟩ : ∃ y, y = x ^^^ by_ := ⟨_, rfl⟩
            have q3 := u8_xor_nat' x by_
            rw [← hy] at q3
            have HST := Lib.hid (HO6.out.setByte i y)
            have HCS := Lib.hid (HC6.out.setCell (p := ⟨g, i, none⟩) (fun h => by
              have h1 := HF.out.new ⟨g, 0, none⟩ rfl
              have h2 := HC2.out.size
              have h3 : g < w1.heap.size := h
              have h4 : w2.heap.size ≤ g := h1
              omega) (.int .u8 y.toNat))
            obtain ⟨S1, hS1⟩ : ∃ S1, S1 = 4294967295 - crcL 4294967295 ((joined l).set i y) := ⟨_, rfl⟩
            have hne : ((S1 : Int) == (S0 : Int)) = false := by
              rw [beq_eq_false_iff_ne]
              have h1 := crcL_set (joined l) i y 4294967295 (by decide) hil (by rw [hy, ← hx']; exact u8_xor_ne x by_ hb0)
              have h2 := crcL_lt (joined l) 4294967295 (by decide)
              have h3 := crcL_lt ((joined l).set i y) 4294967295 (by decide)
              have h4 := HS0.out
              omega
            have HS1 := Lib.hid hS1
            have HSUM1 : Hid (joined [⟨some ⟨g, 0, none⟩, c1, (joined l).set i y⟩] = (joined l).set i y) := Lib.hid (joined_one _ _ _)
            have e4 : (i : Int) < n1 := by omega
            clear hm hi hx hx' hblk hf5 hf6 hil hy hS1
            go_wp2_with fail
            refine (Sum_calls _ _ _ [⟨some ⟨g, 0, none⟩, c1, (joined l).set i y⟩] _ ((HKN.out _ HCS.out).chg ((Chg.refl nowhere _).alloc _) (fun h => h)) ?_ rfl ?_ ?_).mono ?_
            · show Rd _ _ [.slice (some ⟨g, 0, none⟩) ((joined l).set i y).length c1]
              rw [List.length_set, ← HN1.out]
              exact Rd.lit' _ _ [_] _ (by simp)
            · intro r hr
              rw [List.mem_singleton.1 hr]
              exact HST.out.rd.alloc _
            · have := HE.out; simp [rowsSize]; omega
            rintro e w7 ⟨rfl, rfl⟩
            rw [HSUM1.out, ← HS1.out]
            have HC7 := Lib.hid (HCS.out.alloc (.cells #[.slice (some ⟨g, 0, none⟩) n1 c1] 23))
            go_wp2_with fail
            refine (known_calls _ (HKN.out _ HC7.out)).mono ?_
            rintro e w15 ⟨rfl, h15⟩
            have HC15 := Lib.hid (HC7.out.step h15 (fun _ h => h.elim))
            clear h15
            go_wp2_with fail
            go_ret
            exact ⟨rfl, HC15.out⟩
        · have e3 : ¬ (0 : Int) < n1 := by omega
          go_wp2_with fail
          refine (known_calls _ (HKN.out _ HC6.out)).mono ?_
          rintro e w15 ⟨rfl, h15⟩
          have HC15 := Lib.hid (HC6.out.step h15 (fun _ h => h.elim))
          clear h15
          go_wp2_with fail
          go_ret
          exact ⟨rfl, HC15.out⟩
  · go_wp2_with fail
    go_ret
    exact ⟨rfl, Chg.refl _ _⟩
end Go.Proofs.YtifakldkcjjokaaDoor
