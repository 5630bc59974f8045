/- OcSpec, OcW, WrA, WrB, WrC, WrD, OcWB, WnB, WsA, WsB, OcRfA, OcRfB, OcRfC -/
import Derived.Test.YtmnapacibpnodaaGreatUeBase
import Derived.Test.YtmnapacibpnodaaGreatUeHashes
import Derived.Test.YtmnapacibpnodaaGreatUeWnA
section
namespace Go.Proofs.YtmnapacibpnodaaGreat
/-- a number in digits of seven bits, the lowest first; all but the last bear the high bit -/
def enc (n : Nat) : List UInt8 := if n < 128 then [UInt8.ofNat n] else UInt8.ofNat (n % 128 + 128) :: enc (n / 128)
termination_by n
decreasing_by omega
theorem enc_small {n : Nat} (h : n < 128) : enc n = [UInt8.ofNat n] := by rw [enc, if_pos h]
theorem enc_large {n : Nat} (h : ¬ n < 128) : enc n = UInt8.ofNat (n % 128 + 128) :: enc (n / 128) := by rw [enc, if_neg h]
/-- a number of any int, laid: below 0 as 0, above 2^62 as 2^62 -/
def clampN (v : Int) : Nat := (min (max v 0) 4611686018427387904).toNat
def encAll (vs : List Int) : List UInt8 := vs.flatMap fun v => enc (clampN v)
def encRow (p : List UInt8) : List UInt8 := enc p.length ++ p
theorem enc_len_le (n : Nat) (k : Nat) (h : n < 128 ^ k) (hk : 0 < k) : (enc n).length ≤ k := by
  induction k generalizing n with
  | zero => omega
  | succ k ih =>
    by_cases hs : n < 128
    · rw [enc_small hs]; simp
    · rw [enc_large hs]
      have : 0 < k := by
        rcases Nat.eq_zero_or_pos k with rfl | h0
        · simp at h; omega
        · exact h0
      have := ih (n / 128) (by rw [Nat.pow_succ] at h; omega) this
      simp; omega
theorem enc_len (n : Nat) (h : n ≤ 4611686018427387904) : (enc n).length ≤ 9 := enc_len_le n 9 (by omega) (by omega)
theorem clampN_le (v : Int) : clampN v ≤ 4611686018427387904 := by unfold clampN; omega
theorem encAll_len (vs : List Int) : (encAll vs).length ≤ 9 * vs.length := by
  induction vs with
  | nil => simp [encAll]
  | cons v vs ih =>
    have := enc_len _ (clampN_le v)
    simp only [encAll, List.flatMap_cons, List.length_append, List.length_cons] at *
    omega
theorem encAll_snoc (vs : List Int) (v : Int) : encAll (vs ++ [v]) = encAll vs ++ enc (clampN v) := by simp [encAll]
theorem encAll_one (v : Int) : encAll [v] = enc (clampN v) := by simp [encAll]
theorem clampN_nat (n : Nat) (h : n ≤ 4611686018427387904) : clampN n = n := by unfold clampN; omega
theorem enc_cnt (n : Nat) : (enc n).length = 1 + (if n / 128 = 0 then 0 else (enc (n / 128)).length) := by
  by_cases h : n < 128
  · rw [enc_small h, if_pos (by omega)]; rfl
  · rw [enc_large h, if_neg (by omega)]; simp; omega
theorem enc_pos (n : Nat) : 0 < (enc n).length := by have := enc_cnt n; omega
end Go.Proofs.YtmnapacibpnodaaGreat
end
section
open Go Go.RowKit
namespace Go.Proofs.YtmnapacibpnodaaGreat
/-- a Writer at block g, whose bytes lie at A -/
structure WrAt (w : World) (g : Nat) (A : Option Addr) (xs : List UInt8) : Prop where
  ex : ∃ n c, n = xs.length ∧ Blk w g 187 #[.slice A n c] ∧ Own w 5 1 A n c (bs xs)
  far : ∀ ad, A = some ad → ad.block ≠ g
theorem WrAt.lt {w : World} {g : Nat} {A : Option Addr} {xs : List UInt8} (h : WrAt w g A xs) : g < w.heap.size := by
  obtain ⟨⟨_, _, _, hb, _⟩, _⟩ := h
  exact hb.lt
theorem WrAt.old {w : World} {g : Nat} {A : Option Addr} {xs : List UInt8} (h : WrAt w g A xs) : ∀ k, Wf g A k → k < w.heap.size := by
  obtain ⟨⟨_, _, _, hb, ho⟩, _⟩ := h
  rintro k (rfl | ⟨ad, e, rfl⟩)
  · exact hb.lt
  · exact ho.lt e
theorem WrAt.fresh {w : World} {g : Nat} {A : Option Addr} {xs : List UInt8} (h : WrAt w g A xs) {z : Nat} (hz : w.heap.size ≤ z) (vs : List Value) : Apart (Wf g A) (some (⟨z, 0, none⟩ : Addr)) vs := by
  intro _ ad e hW
  injection e with e
  subst e
  have := h.old _ hW
  simp at this
  omega
theorem WrAt.chg {S : Nat → Prop} {w w' : World} {g : Nat} {A : Option Addr} {xs : List UInt8} (h : WrAt w g A xs) (hc : Chg S w w') (hS : ∀ k, Wf g A k → ¬ S k) : WrAt w' g A xs := by
  obtain ⟨⟨n, c, hn, hb, ho⟩, hf⟩ := h
  exact ⟨⟨n, c, hn, hb.chg hc (hS g (.inl rfl)), ho.chg hc (fun ad e => hS _ (.inr ⟨ad, e, rfl⟩))⟩, hf⟩
/-- behind an append, and the store of the new header -/
theorem wr_push {w wx w2 : World} {g : Nat} {A A' : Option Addr} {L L' c c' : Nat} {zs : List UInt8} (hblk : Blk w g 187 #[.slice A L c]) (hfar : ∀ ad, A = some ad → ad.block ≠ g)
    (h0 : Chg nowhere w wx) (hchg : Chg (fun k => ∃ ad, A = some ad ∧ ad.block = k) wx w2) (hown : Own w2 5 1 A' L' c' (bs zs)) (hL : L' = zs.length)
    (hA : A' = A ∨ ∃ z, A' = some ⟨z, 0, none⟩ ∧ w.heap.size ≤ z) :
    WrAt (w2.setCell ⟨g, 0, none⟩ (.slice A' L' c')) g A' zs ∧ Chg (Wf g A) w (w2.setCell ⟨g, 0, none⟩ (.slice A' L' c')) ∧ Moved w A A' := by
  have hg := hblk.lt
  have hfar' : ∀ ad, A' = some ad → ad.block ≠ g := by
    rintro ad rfl
    rcases hA with rfl | hA
    · exact hfar ad rfl
    · obtain ⟨z, hA, hz⟩ := hA
      injection hA with hA
      subst hA
      show z ≠ g
      omega
  have hb2 : Blk w2 g 187 #[.slice A L c] := (hblk.chg h0 (fun h => h)).chg hchg (fun ⟨ad, e, h⟩ => hfar ad e h)
  refine ⟨⟨⟨L', c', hL, hb2.set_ 0 _, hown.far hfar' _⟩, hfar'⟩, ?_, ?_⟩
  · refine ((h0.mono (fun _ _ h => h.elim)).trans hchg (fun x _ h => .inr h)).setCell (fun _ => .inl rfl) _
  · rcases hA with rfl | ⟨z, rfl, hz⟩
    · exact .inl rfl
    · exact .inr ⟨_, rfl, hz⟩
theorem u8_or_128 (m : Nat) : Value.int .u8 (bits .or .u8 ((m : Int) % 256) 128) = u8v (UInt8.ofNat (m % 128 + 128)) := by
  have h1 : ((m : Int) % 256) = ((m % 256 : Nat) : Int) := by omega
  have h2 : ((128 : Int)) = ((128 : Nat) : Int) := rfl
  have h3 : m % 256 ||| 128 = m % 128 + 128 := by
    have h4 : m % 256 = 128 * (m / 128 % 2) + m % 128 := by omega
    rcases Nat.mod_two_eq_zero_or_one (m / 128) with h5 | h5
    · rw [h5] at h4
      rw [h4, Nat.or_comm]
      have := nat_join 7 128 (128 * 0 + m % 128) (by decide) (by omega)
      omega
    · rw [h5] at h4
      rw [h4, Nat.or_comm]
      have h6 := nat_join 7 128 (m % 128) (by decide) (by omega)
      rw [show 128 * 1 + m % 128 = 128 ||| m % 128 by omega, ← Nat.or_assoc, show 128 ||| 128 = 128 from rfl, h6]
      omega
  rw [h1, h2, u8_or_nat _ _ (by omega) (by omega), h3]
  simp [u8v]
  omega
theorem u8_low (m : Nat) (h : m < 128) : Value.int .u8 (m : Int) = u8v (UInt8.ofNat m) := by
  simp [u8v]
  omega
set_option maxRecDepth 100000 in
set_option maxHeartbeats 400000 in
theorem num_calls (g : Nat) (A : Option Addr) (xs : List UInt8) (n : Nat) (w : World) (hw : WrAt w g A xs) (hn : n ≤ 4611686018427387904) (hx : xs.length ≤ 1000000000000) :
    Calls Tryz.prog 166 #[.pointer (some ⟨g, 0, none⟩), .int .i64 n] w fun e w' => e = .returned (.tuple #[]) ∧ ∃ A', WrAt w' g A' (xs ++ enc n) ∧
      Chg (Wf g A) w w' ∧ Moved w A A' := by
  have hlen := enc_len n hn
  have HX := Lib.hid hx
  have HN := Lib.hid hn
  have hn9 : n ≤ 9223372036854775807 := by omega
  clear hx hn
  go_enter Tryz.func166, Tryz.ntmps166
  go_wp2
  go_loopw [1] (fun t wr => ∃ (m : Nat) (A1 : Option Addr) (pre : List UInt8), m ≤ n ∧ t = .int .i64 m ∧ WrAt wr g A1 (xs ++ pre) ∧ pre ++ enc m = enc n ∧
      Chg (Wf g A) w wr ∧ Moved w A A1) (fun t _ => (intOf t).toNat)
  case atStart => exact ⟨n, A, [], Nat.le_refl _, rfl, by simpa using hw, rfl, Chg.refl _ _, .inl rfl⟩
  case round =>
    obtain ⟨m, A1, pre, hm, rfl, ⟨⟨L, c, hL, hblk, hown⟩, hfar⟩, henc, hchg, hA⟩ := hrel
    have hc0 : wr.cell? ⟨g, 0, none⟩ = some (.slice A1 L c) := hblk.cell 0
    have hf0 : wr.frozen? ⟨g, 0, none⟩ = false := hblk.frozen 0
    have hm9 : m ≤ 9223372036854775807 := by omega
    have hpre : pre.length ≤ 9 := by have := congrArg List.length henc; simp at this; omega
    have HLB : Hid (L ≤ 1000000000009) := Lib.hid (by have := HX.out; simp at hL; omega)
    have HBLK := Lib.hid hblk
    have HOWN := Lib.hid hown
    have HFAR := Lib.hid hfar
    have HENC := Lib.hid henc
    have HCHG := Lib.hid hchg
    have HA := Lib.hid hA
    have HL := Lib.hid hL
    clear hblk hown hfar henc hchg hA hL
    have HB : Hid (L + 1 ≤ lim) := hid_lim (by have := HLB.out; omega)
    by_cases hlt : m < 128
    · have e1 : (m : Int) < 128 := by omega
      go_wp2_with (at_builtin; refine wpList_append_one rfl (.tmp 24) (.tmp 27) elemB rfl (Nat.le_refl _) rfl (HOWN.out.alloc _) rfl (Rd.lit _ [_] _) rfl HB ?_)
      intro A2 c2 w2 hown2 hchg2 hA2
      rw [u8_low m hlt, show bs (xs ++ pre) ++ [u8v (UInt8.ofNat m)] = bs ((xs ++ pre) ++ [UInt8.ofNat m]) by simp [bs]] at hown2
      have hb2 := (HBLK.out.alloc _).chg hchg2 (fun ⟨ad, e, h⟩ => HFAR.out ad e h)
      have hc2 : w2.cell? ⟨g, 0, none⟩ = some (.slice A1 L c) := hb2.cell 0
      have hf2 : w2.frozen? ⟨g, 0, none⟩ = false := hb2.frozen 0
      have HP := Lib.hid (wr_push HBLK.out HFAR.out ((Chg.refl nowhere wr).alloc _) hchg2 hown2 (by have := HL.out; simp at this ⊢; omega) (hA2.imp id fun h => ⟨_, h, by omega⟩))
      clear hown2 hchg2 hA2 hb2
      go_wp2
      go_end0
      obtain ⟨h1, h2, h3⟩ := HP.out
      obtain ⟨h4, h5⟩ := wf_trans HCHG.out HA.out h2 h3
      have := HENC.out
      rw [enc_small hlt] at this
      exact ⟨rfl, A2, by rw [← this, ← List.append_assoc]; exact h1, h4, h5⟩
    · have e1 : 128 ≤ (m : Int) := by omega
      go_wp2_with (at_builtin; refine wpList_append_one rfl (.tmp 12) (.tmp 16) elemB rfl (Nat.le_refl _) rfl (HOWN.out.alloc _) rfl (Rd.lit _ [_] _) rfl HB ?_)
      intro A2 c2 w2 hown2 hchg2 hA2
      rw [u8_or_128 m, show bs (xs ++ pre) ++ [u8v (UInt8.ofNat (m % 128 + 128))] = bs (xs ++ (pre ++ [UInt8.ofNat (m % 128 + 128)])) by simp [bs]] at hown2
      have hb2 := (HBLK.out.alloc _).chg hchg2 (fun ⟨ad, e, h⟩ => HFAR.out ad e h)
      have hc2 : w2.cell? ⟨g, 0, none⟩ = some (.slice A1 L c) := hb2.cell 0
      have hf2 : w2.frozen? ⟨g, 0, none⟩ = false := hb2.frozen 0
      have HP := Lib.hid (wr_push HBLK.out HFAR.out ((Chg.refl nowhere wr).alloc _) hchg2 hown2 (by have := HL.out; simp at this ⊢; omega) (hA2.imp id fun h => ⟨_, h, by omega⟩))
      clear hown2 hchg2 hA2 hb2
      go_wp2
      obtain ⟨h1, h2, h3⟩ := HP.out
      obtain ⟨h4, h5⟩ := wf_trans HCHG.out HA.out h2 h3
      have := HENC.out
      rw [enc_large hlt] at this
      exact ⟨⟨m / 128, A2, pre ++ [UInt8.ofNat (m % 128 + 128)], by omega, by go_num, h1, by rw [← this, List.append_assoc]; rfl, h4, h5⟩, by simp [intOf]; omega⟩
theorem num_any (g : Nat) (A : Option Addr) (xs : List UInt8) (v : Int) (w : World) (hw : WrAt w g A xs) (h0 : 0 ≤ v) (hn : v ≤ 4611686018427387904) (hx : Hid (xs.length ≤ 1000000000000)) :
    Calls Tryz.prog 166 #[.pointer (some ⟨g, 0, none⟩), .int .i64 v] w fun e w' => e = .returned (.tuple #[]) ∧ ∃ A', Hid (WrAt w' g A' (xs ++ enc v.toNat)) ∧
      Hid (Chg (Wf g A) w w') ∧ Hid (Moved w A A') := by
  obtain ⟨n, rfl⟩ := Int.eq_ofNat_of_zero_le h0
  exact num_calls g A xs n w hw (by omega) hx.out
def is64 (vs : List Int) : List Value := vs.map (.int .i64)
set_option maxRecDepth 100000 in
set_option maxHeartbeats 400000 in
theorem Nums_calls (g : Nat) (A : Option Addr) (xs : List UInt8) (A2 : Option Addr) (n c2 : Nat) (vs : List Int) (w : World) (hw : WrAt w g A xs) (hr : Rd w A2 (is64 vs)) (hn : vs.length = n)
    (hA2 : Apart (Wf g A) A2 (is64 vs)) (hx : xs.length + 9 * vs.length ≤ 1000000000000) :
    Calls Tryz.prog 148 #[.pointer (some ⟨g, 0, none⟩), .slice A2 n c2] w fun e w' => e = .returned (.tuple #[]) ∧ ∃ A', WrAt w' g A' (xs ++ encAll vs) ∧
      Chg (Wf g A) w w' ∧ Moved w A A' := by
  have HX := Lib.hid hx
  have HN := Lib.hid hn
  have HR := Lib.hid hr
  have HF := Lib.hid hA2
  have hn9 : n ≤ 9223372036854775807 := by omega
  clear hx hn hr hA2
  go_enter Tryz.func148, Tryz.ntmps148
  go_wp2
  go_loopw [10] (fun t wr => ∃ (k : Nat) (A1 : Option Addr), k ≤ n ∧ t = .int .i64 k ∧ WrAt wr g A1 (xs ++ encAll (vs.take k)) ∧
      Chg (Wf g A) w wr ∧ Moved w A A1) (fun t _ => n - (intOf t).toNat)
  case atStart => exact ⟨0, A, Nat.zero_le _, rfl, by simpa [encAll] using hw, Chg.refl _ _, .inl rfl⟩
  case round =>
    obtain ⟨k, A1, hk, rfl, hw1, hchg, hA⟩ := hrel
    have HW1 := Lib.hid hw1
    have HCHG := Lib.hid hchg
    have HA := Lib.hid hA
    clear hw1 hchg hA
    by_cases hlt : k < n
    · have e1 : (k : Int) < n := by omega
      have hkv : k < vs.length := by have := HN.out; omega
      obtain ⟨ad, rfl, hc⟩ := (HR.out.chg HCHG.out HF.out) k (.int .i64 vs[k]) (by simp [is64, hkv])
      have hsn := encAll_snoc (vs.take k) vs[k]
      rw [List.take_append_getElem hkv] at hsn
      have HB : Hid ((xs ++ encAll (vs.take k)).length ≤ 1000000000000) := Lib.hid (by have h1 := encAll_len (vs.take k); have h2 := HX.out; rw [List.length_take] at h1; rw [List.length_append]; omega)
      generalize vs[k] = v at hc hsn
      have HSN := Lib.hid hsn
      clear hkv hsn
      have hcl : (v < 0 ∧ clampN v = (0 : Int).toNat) ∨ ((0 ≤ v ∧ v ≤ 4611686018427387904) ∧ clampN v = v.toNat) ∨ (4611686018427387904 < v ∧ clampN v = (4611686018427387904 : Int).toNat) := by
        unfold clampN; omega
      rcases hcl with ⟨hv, hcl⟩ | ⟨⟨hv, hv2⟩, hcl⟩ | ⟨hv, hcl⟩
      all_goals
        have HCL := Lib.hid hcl
        clear hcl
        go_wp2_with fail
        refine (num_any g A1 _ _ _ HW1.out (by omega) (by omega) HB).mono ?_
        rintro e w1 ⟨rfl, A3, h1, h2, h3⟩
        go_wp2
        obtain ⟨h4, h5⟩ := wf_trans HCHG.out HA.out h2.out h3.out
        refine ⟨⟨k + 1, A3, by omega, by go_num, ?_, h4, h5⟩, by simp [intOf]; omega⟩
        rw [HSN.out, HCL.out, ← List.append_assoc]
        exact h1.out
    · have e1 : (n : Int) ≤ k := by omega
      go_wp2
      go_end0
      refine ⟨rfl, A1, ?_, HCHG.out, HA.out⟩
      have := HW1.out
      rwa [List.take_of_length_le (by have := HN.out; omega)] at this
set_option maxRecDepth 100000 in
set_option maxHeartbeats 400000 in
theorem wRaw_calls (g : Nat) (A : Option Addr) (xs : List UInt8) (A2 : Option Addr) (n c2 : Nat) (ys : List UInt8) (w : World) (hw : WrAt w g A xs) (hr : Rd w A2 (bs ys)) (hn : ys.length = n)
    (hx : xs.length + ys.length ≤ 10000000000000) :
    Calls Tryz.prog 175 #[.pointer (some ⟨g, 0, none⟩), .slice A2 n c2] w fun e w' => e = .returned (.tuple #[]) ∧ ∃ A', Hid (WrAt w' g A' (xs ++ ys)) ∧
      Hid (Chg (Wf g A) w w') ∧ Hid (Moved w A A') := by
  obtain ⟨⟨L, c, hL, hblk, hown⟩, hfar⟩ := hw
  have hc0 : w.cell? ⟨g, 0, none⟩ = some (.slice A L c) := hblk.cell 0
  have hf0 : w.frozen? ⟨g, 0, none⟩ = false := hblk.frozen 0
  have HBLK := Lib.hid hblk
  have HOWN := Lib.hid hown
  have HFAR := Lib.hid hfar
  have HL := Lib.hid hL
  have HN := Lib.hid hn
  have HR := Lib.hid hr
  have HB : Hid (L + n ≤ lim) := hid_lim (by omega)
  have HM : Hid ((bs ys).length = n) := Lib.hid (by rw [bs_length]; exact hn)
  clear hblk hown hfar hL hn hr hx
  go_enter Tryz.func175, Tryz.ntmps175
  go_wp2_with (at_builtin; refine wpList_append_many rfl (.tmp 10) (.tmp 11) elemB rfl (Nat.le_refl _) rfl HOWN.out rfl HR.out HM (bs_one ys) HB ?_)
  intro A3 c3 w3 hown3 hchg3 hA3
  rw [bs_append] at hown3
  have hb3 := HBLK.out.chg hchg3 (fun ⟨ad, e, h⟩ => HFAR.out ad e h)
  have hc3 : w3.cell? ⟨g, 0, none⟩ = some (.slice A L c) := hb3.cell 0
  have hf3 : w3.frozen? ⟨g, 0, none⟩ = false := hb3.frozen 0
  have HP := Lib.hid (wr_push HBLK.out HFAR.out (Chg.refl nowhere w) hchg3 hown3 (by have := HL.out; have := HN.out; simp; omega) (hA3.imp id fun h => ⟨_, h, Nat.le_refl _⟩))
  clear hown3 hchg3 hA3 hb3
  go_wp2
  go_end0
  obtain ⟨h1, h2, h3⟩ := HP.out
  exact ⟨rfl, A3, h1, h2, h3⟩

theorem nilB (w : World) (a : Option Addr) (n c n' c' : Nat) : (binOp .eql 34 (.slice a n c) (.slice none n' c')).run Tryz.prog w = .ok (.bool a.isNone) w :=
  Lib.run_eql_slice_nil w 34 5 a n c n' c' Tryz.underlying34
attribute [local go_sem] nilB
set_option maxRecDepth 100000 in
set_option maxHeartbeats 400000 in
theorem Clone_calls (A : Option Addr) (n c : Nat) (xs : List UInt8) (w : World) (hr : Rd w A (bs xs)) (hn : xs.length = n) (hx : n ≤ 140737488351232) :
    Calls Tryz.prog 89 #[.slice A n c] w fun e w' => ∃ A' c', e = .returned (.slice A' n c') ∧ Hid (Own w' 5 1 A' n c' (bs xs)) ∧
      Hid (Chg nowhere w w') ∧ Hid (∀ ad, A' = some ad → w.heap.size ≤ ad.block) := by
  have HN := Lib.hid hn
  have HR := Lib.hid hr
  have HB : Hid (0 + n ≤ lim) := hid_lim (by omega)
  have HM : Hid ((bs xs).length = n) := Lib.hid (by rw [bs_length]; exact hn)
  clear hr hx
  rcases A with _ | ad
  · have h0 : n = 0 := by
      rcases xs with _ | ⟨x, xs⟩
      · simpa using hn.symm
      · obtain ⟨ad, h, _⟩ := HR.out 0 (u8v x) rfl
        cases h
    subst h0
    have hxs : xs = [] := List.eq_nil_of_length_eq_zero hn
    clear hn
    go_enter Tryz.func89, Tryz.ntmps89
    go_wp2
    go_ret
    refine ⟨none, 0, rfl, ?_, Chg.refl _ _, fun ad h => by cases h⟩
    rw [hxs]
    exact Own.nil _ _ _
  · clear hn
    go_enter Tryz.func89, Tryz.ntmps89
    go_wp2_with (at_builtin; refine wpList_append_many rfl (.tmp 5) (.tmp 6) elemB rfl (Nat.le_refl _) rfl (elem_nil _) rfl (HR.out.alloc _) HM (bs_one xs) HB ?_)
    intro A3 c3 w3 hown3 hchg3 hA3
    have HO := Lib.hid hown3
    have HC : Hid (Chg nowhere w w3) := Lib.hid (((Chg.refl nowhere w).alloc (.cells #[] 5)).trans hchg3 (fun x hx hT => by
      first | omega | (simp at hT; omega) | (obtain ⟨ad, e, h⟩ := hT; injection e with e; subst e; simp at h; omega)))
    have HA : Hid (∀ ad, A3 = some ad → w.heap.size ≤ ad.block) := Lib.hid (by
      rintro ad rfl
      rcases hA3 with h | h <;> injection h with h <;> subst h <;> simp)
    clear hown3 hchg3 hA3
    go_wp2
    go_ret
    exact ⟨A3, c3, rfl, HO.out, HC, HA⟩
theorem Out_calls (g : Nat) (A : Option Addr) (xs : List UInt8) (w : World) (hw : WrAt w g A xs) (hx : xs.length ≤ 10000000000000) :
    Calls Tryz.prog 122 #[.pointer (some ⟨g, 0, none⟩)] w fun e w' => ∃ A' n c', e = .returned (.slice A' n c') ∧ Hid (n = xs.length) ∧ Hid (Own w' 5 1 A' n c' (bs xs)) ∧
      Hid (Chg nowhere w w') ∧ Hid (∀ ad, A' = some ad → w.heap.size ≤ ad.block) := by
  obtain ⟨⟨L, c, hL, hblk, hown⟩, hfar⟩ := hw
  have hc0 : w.cell? ⟨g, 0, none⟩ = some (.slice A L c) := hblk.cell 0
  have hrd := hown.rd
  have hx' : L ≤ 10000000000000 := by omega
  have HL := Lib.hid hL
  have HR := Lib.hid hrd
  have HX := Lib.hid hx'
  clear hblk hown hfar hL hrd hx hx'
  go_enter Tryz.func122, Tryz.ntmps122
  go_wp2_with fail
  refine (Clone_calls A L c xs w HR.out HL.out.symm (Nat.le_trans HX.out (by decide))).mono ?_
  rintro e w1 ⟨A1, c1, rfl, h1, h2, h3⟩
  go_wp2
  go_ret
  exact ⟨A1, L, c1, rfl, HL, h1, h2, h3⟩
def encRows (l : List Row) : List UInt8 := l.flatMap fun r => encRow r.p
def rowsSize : List Row → Nat
  | [] => 0
  | r :: l => r.p.length + 10 + rowsSize l
theorem encRows_snoc (l : List Row) (r : Row) : encRows (l ++ [r]) = encRows l ++ encRow r.p := by simp [encRows]
theorem rowsSize_append (l k : List Row) : rowsSize (l ++ k) = rowsSize l + rowsSize k := by
  induction l with
  | nil => simp [rowsSize]
  | cons r l ih => simp [rowsSize, ih]; omega
theorem encRow_len (p : List UInt8) (h : p.length ≤ 4611686018427387904) : (encRow p).length ≤ p.length + 9 := by
  have := enc_len p.length h
  simp [encRow]; omega
theorem encRows_len (l : List Row) (h : ∀ r ∈ l, r.p.length ≤ 4611686018427387904) : (encRows l).length ≤ rowsSize l := by
  induction l with
  | nil => simp [encRows]
  | cons r l ih =>
    have h1 := encRow_len r.p (h r (by simp))
    have h2 := ih (fun r hr => h r (by simp [hr]))
    simp [encRows, rowsSize] at *
    omega
theorem rowsSize_len (l : List Row) : l.length ≤ rowsSize l := by
  induction l with
  | nil => simp
  | cons r l ih => simp [rowsSize]; omega
theorem rowsSize_mem {l : List Row} {r : Row} (h : r ∈ l) : r.p.length + 10 ≤ rowsSize l := by
  induction l with
  | nil => cases h
  | cons a m ih =>
    rcases List.mem_cons.1 h with rfl | h
    · simp [rowsSize]
    · have := ih h
      simp [rowsSize]; omega
theorem rowsSize_take (l : List Row) (k : Nat) : rowsSize (l.take k) + rowsSize (l.drop k) = rowsSize l := by
  rw [← rowsSize_append, List.take_append_drop]
end Go.Proofs.YtmnapacibpnodaaGreat
end
section
open Go Go.RowKit
namespace Go.Proofs.YtmnapacibpnodaaGreat
/-- fv is a closure that lays ys, whatever Writer it is handed, as long as the blocks T stand as in w -/
structure Lays (w : World) (T : Nat → Prop) (fv : Value) (ys : List UInt8) : Prop where
  low : ∀ x, T x → x < w.heap.size
  run : ∃ f caps, fv = .func (.func f) #[] caps ∧ (∀ args w2, (callFunc f args).run Tryz.prog w2 = .ok (.enter f args) w2) ∧ ∀ w1 g A xs, Chg (fun x => ¬ T x) w w1 → WrAt w1 g A xs → (∀ x, Wf g A x → ¬ T x) → xs.length + ys.length ≤ 1000000000 →
    Calls Tryz.prog f (#[.pointer (some ⟨g, 0, none⟩)] ++ caps) w1 fun e w' => e = .returned (.tuple #[]) ∧ ∃ A', WrAt w' g A' (xs ++ ys) ∧ Chg (Wf g A) w1 w' ∧ Moved w1 A A'
theorem run_enter {P : Program} {f : FuncId} {fn : Func} {c : Code} (hf : P.funcs[f]? = some fn) (hname : (fn.name == "runtime.NumGoroutine") = false) (hb : fn.body = some c) (args : Array Value) (w : World) :
    (callFunc f args).run P w = .ok (.enter f args) w := by
  have h1 : fn.name ≠ "runtime.NumGoroutine" := by simpa using hname
  simp [callFunc, hf, h1, hb]
theorem Lays.later {w w' : World} {T S : Nat → Prop} {fv : Value} {ys : List UInt8} (h : Lays w T fv ys) (hc : Chg S w w') (hS : ∀ x, T x → ¬ S x) : Lays w' T fv ys := by
  obtain ⟨f, caps, e, hent, hrun⟩ := h.run
  refine ⟨fun x hx => Nat.lt_of_lt_of_le (h.low x hx) hc.size, f, caps, e, hent, fun w1 g A xs h1 h2 h3 h4 => hrun w1 g A xs ?_ h2 h3 h4⟩
  exact (hc.mono (fun x _ hk hT => hS x hT hk)).trans h1 (fun _ _ hk => hk)
set_option maxRecDepth 100000 in
theorem laidI1_calls {w : World} {g bl bv n c : Nat} {A A2 : Option Addr} {xs : List UInt8} {vs : List Int} {fx : FuncId} {t1 t2 : TypeId} (hf : fx = 148) (hw : WrAt w g A xs) [hbl : HB w bl t1 #[.func (.func fx) #[] #[]]] [hbv : HB w bv t2 #[.slice A2 n c]] (hr : Rd w A2 (is64 vs)) (hn : vs.length = n) (hA2 : Apart (Wf g A) A2 (is64 vs)) (hx : xs.length + 9 * vs.length ≤ 1000000000000) :
    Calls Tryz.prog 165 #[.pointer (some ⟨g, 0, none⟩), .pointer (some ⟨bl, 0, none⟩), .pointer (some ⟨bv, 0, none⟩)] w fun e w' => e = .returned (.tuple #[]) ∧ ∃ A', WrAt w' g A' (xs ++ encAll vs) ∧ Chg (Wf g A) w w' ∧ Moved w A A' := by
  subst hf
  go_enter Tryz.func165, Tryz.ntmps165
  go_wp2_with (first | ((with_reducible apply wpl_loadcellN); (exact rfl); infer_instance; (exact rfl)))
  refine (Nums_calls g A xs A2 n c vs w hw hr hn hA2 hx).mono ?_
  rintro e w5 ⟨rfl, h5⟩
  go_wp2_with fail
  go_end0
  exact ⟨rfl, h5⟩
set_option maxRecDepth 100000 in
theorem laidI_calls {A2 : Option Addr} {n c : Nat} {vs : List Int} {w : World} (hr : Rd w A2 (is64 vs)) (hn : vs.length = n) (hlim : 9 * vs.length ≤ 1000000000) :
    Calls Tryz.prog 147 #[.func (.func 148) #[] #[], .slice A2 n c] w fun e w' => ∃ fv T, e = .returned fv ∧ Step nowhere w w' ∧ Lays w' T fv (encAll vs) ∧ ∀ x, T x → w.heap.size ≤ x ∨ rowOf A2 x := by
  go_enter Tryz.func147, Tryz.ntmps147
  go_wp2_with (first | ((with_reducible apply (wpl_box (dst := some 2) (cs := #[.func (.func 148) #[] #[]]))); (exact rfl); (exact rfl); intro bl wbl _ _ _) | ((with_reducible apply (wpl_box_slice (dst := some 3))); (exact rfl); intro bv wbv _ _ _))
  go_ret
  have h1 : HB wbv bl 216 #[.func (.func 148) #[] #[]] := inferInstance
  have h2 : HB wbv bv 22 #[.slice A2 n c] := inferInstance
  have hst : Step nowhere w wbv := stepN
  have hbl : w.heap.size ≤ bl := Nat.le_of_eq (inferInstance : Born w bl).eq.symm
  have hbv : w.heap.size ≤ bv := by
    have e1 := (inferInstance : Born wbl bv).eq
    have e2 := (inferInstance : SzLe w wbl).out
    omega
  have hr2 := hr.later hst.chg
  refine ⟨_, fun x => x = bl ∨ x = bv ∨ (is64 vs ≠ [] ∧ rowOf A2 x), rfl, hst, ⟨fun x hx => ?_, _, _, rfl, run_enter Tryz.func165 (by kernel_rfl) rfl, fun w1 g A xs hc hw hT hlen => ?_⟩, fun x hx => ?_⟩
  · rcases hx with rfl | rfl | ⟨hne, ad, e, hk⟩
    · exact h1.out.lt
    · exact h2.out.lt
    · rw [← hk]
      exact rd_lt hr2 hne e
  · have k1 : HB w1 bl 216 #[.func (.func 148) #[] #[]] := ⟨h1.out.chg hc (fun hk => hk (.inl rfl))⟩
    have k2 : HB w1 bv 22 #[.slice A2 n c] := ⟨h2.out.chg hc (fun hk => hk (.inr (.inl rfl)))⟩
    have hl := encAll_len vs
    exact laidI1_calls rfl hw (hr2.chg hc (fun hne ad e hk => hk (.inr (.inr ⟨hne, ad, e, rfl⟩)))) hn (fun hne ad e hk => hT _ hk (.inr (.inr ⟨hne, ad, e, rfl⟩))) (by omega)
  · rcases hx with rfl | rfl | ⟨hne, hk⟩
    · exact .inl hbl
    · exact .inl hbv
    · exact .inr hk
set_option maxRecDepth 100000 in
theorem nums_calls {A2 : Option Addr} {n c : Nat} {vs : List Int} {w : World} (hr : Rd w A2 (is64 vs)) (hn : vs.length = n) (hlim : 9 * vs.length ≤ 1000000000) :
    Calls Tryz.prog 121 #[.slice A2 n c] w fun e w' => ∃ fv T, e = .returned fv ∧ Step nowhere w w' ∧ Lays w' T fv (encAll vs) ∧ ∀ x, T x → w.heap.size ≤ x ∨ rowOf A2 x := by
  go_enter Tryz.func121, Tryz.ntmps121
  go_wp2_with fail
  refine (laidI_calls (A2 := A2) (c := c) hr hn hlim).mono ?_
  rintro e w5 ⟨fv, T, rfl, hs, hL, hT⟩
  go_wp2_with fail
  go_ret
  exact ⟨fv, T, rfl, hs, hL, hT⟩
end Go.Proofs.YtmnapacibpnodaaGreat
end
section
open Go Go.RowKit
namespace Go.Proofs.YtmnapacibpnodaaGreat
structure Fld where
  fv : Value
  T : Nat → Prop
  ys : List UInt8
def fvs (l : List Fld) : List Value := l.map (·.fv)
def allYs (l : List Fld) : List UInt8 := l.flatMap (·.ys)
def gf (l : List Fld) (k : Nat) : Fld := l.getD k ⟨.nilFunc, nowhere, []⟩
theorem gf_mem (l : List Fld) (k : Nat) (h : k < l.length) : gf l k ∈ l := by
  simp [gf, List.getD_eq_getElem?_getD, h]
theorem fvs_at {l : List Fld} {k : Nat} (h : k < l.length) : (fvs l)[k]? = some (gf l k).fv := by
  simp [fvs, gf, List.getD_eq_getElem?_getD, h]
theorem allYs_take (l : List Fld) (k : Nat) (h : k < l.length) : allYs (l.take (k + 1)) = allYs (l.take k) ++ (gf l k).ys := by
  rw [List.take_add_one, List.getElem?_eq_getElem h]
  unfold allYs
  rw [List.flatMap_append]
  simp [gf, List.getD_eq_getElem?_getD, h]
theorem allYs_le (l : List Fld) (k : Nat) (h : k < l.length) : (allYs (l.take k)).length + (gf l k).ys.length ≤ (allYs l).length := by
  rw [← List.length_append, ← allYs_take l k h]
  have e : allYs l = allYs (l.take (k + 1)) ++ allYs (l.drop (k + 1)) := by
    unfold allYs
    rw [← List.flatMap_append, List.take_append_drop]
  rw [e, List.length_append]
  exact Nat.le_add_right _ _
set_option maxRecDepth 100000 in
theorem fields1_calls {w : World} {g bl n c : Nat} {A A2 : Option Addr} {xs : List UInt8} {l : List Fld} {t1 : TypeId} (hw : WrAt w g A xs) [hbl : HB w bl t1 #[.slice A2 n c]] (hr : Rd w A2 (fvs l)) (hn : l.length = n) (hA2 : Apart (Wf g A) A2 (fvs l))
    (hL : ∀ f ∈ l, Lays w f.T f.fv f.ys) (hT : ∀ f ∈ l, ∀ x, Wf g A x → ¬ f.T x) (hx : xs.length + (allYs l).length ≤ 1000000000) (hm : n ≤ 1000000000) :
    Calls Tryz.prog 146 #[.pointer (some ⟨g, 0, none⟩), .pointer (some ⟨bl, 0, none⟩)] w fun e w' => e = .returned (.tuple #[]) ∧ ∃ A', WrAt w' g A' (xs ++ allYs l) ∧ Chg (Wf g A) w w' ∧ Moved w A A' := by
  have HN := Lib.hid hn
  clear hn
  go_enter Tryz.func146, Tryz.ntmps146
  go_wp2_with (first | ((with_reducible apply wpl_loadcellN); (exact rfl); infer_instance; (exact rfl)))
  go_loopw [7] (fun iv wr => ∃ (k : Nat) (A1 : Option Addr), k ≤ n ∧ iv = .int .i64 (k : Int) ∧ WrAt wr g A1 (xs ++ allYs (l.take k)) ∧ Chg (Wf g A) w wr ∧ Moved w A A1) (fun iv _ => n - (intOf iv).toNat)
  case atStart => exact ⟨0, A, Nat.zero_le _, rfl, by simpa [allYs] using hw, Chg.refl _ _, Moved.refl _ _⟩
  case round =>
    obtain ⟨k, A1, hk, rfl, hW, hC, hM⟩ := hrel
    by_cases hlt : k < n
    · have hltI : (k : Int) < n := by omega
      have hkl : k < l.length := by have := HN.out; omega
      have hv := fvs_at hkl
      have hvl : 0 < (fvs l).length := by simp [fvs]; omega
      have hLk := hL _ (gf_mem l k hkl)
      have hTk := hT _ (gf_mem l k hkl)
      have hle := allYs_le l k hkl
      have htk := allYs_take l k hkl
      obtain ⟨⟨fv, T, ys⟩, hfl⟩ : ∃ x, gf l k = x := ⟨_, rfl⟩
      rw [hfl] at hv hLk hTk hle htk
      simp only at hv hLk hTk hle htk
      obtain ⟨f, caps, rfl, hent, hrun⟩ := hLk.run
      have hlow := hLk.low
      have hr1 : HR wr A2 (fvs l) := ⟨hr.chg hC hA2⟩
      have HV := Lib.hid hv
      have hcall := hrun wr g A1 (xs ++ allYs (l.take k)) (hC.mono (fun x _ hS hTx => hTk x hS hTx)) hW (fun x hx hTx => by
        rcases hM with rfl | ⟨ad, rfl, had⟩
        · exact hTk x hx hTx
        · rcases hx with rfl | ⟨ad', e, rfl⟩
          · exact hTk _ (.inl rfl) hTx
          · injection e with e
            subst e
            have := hlow _ hTx
            omega) (by rw [List.length_append]; omega)
      clear hle hv hfl hLk hlow
      go_wp2_with (first | ((with_reducible apply wpl_index1); (exact rfl); (exact rfl); infer_instance; (exact hr1); (exact hvl); (exact hlt)) | ((with_reducible apply wpl_load1); (exact rfl); (exact hr1); infer_instance; (exact HV.out)))
      refine hcall.mono ?_
      rintro e w5 ⟨rfl, A5, h5, hc5, hm5⟩
      have h6 := wf_trans hC hM hc5 hm5
      go_wp2_with fail
      refine ⟨⟨k + 1, A5, by omega, by simp, by rw [htk, ← List.append_assoc]; exact h5, h6.1, h6.2⟩, by simp [intOf]; omega⟩
    · obtain rfl : k = n := by omega
      have hltI : ¬ (k : Int) < k := by omega
      have hfin : l.take k = l := List.take_of_length_le (by have := HN.out; omega)
      rw [hfin] at hW
      go_wp2_with fail
      go_end0
      exact ⟨rfl, A1, hW, hC, hM⟩
end Go.Proofs.YtmnapacibpnodaaGreat
end
section
open Go Go.RowKit
namespace Go.Proofs.YtmnapacibpnodaaGreat
theorem HB.rdL {w : World} {z : Nat} {t : TypeId} {cs : Array Value} (h : HB w z t cs) : Rd w (some ⟨z, 0, none⟩) cs.toList := fun k u hk => by
  refine ⟨_, rfl, ?_⟩
  rw [add_row, h.out.cell k]
  simpa using hk
/-- a closure of one function -/
def fnV (f : FuncId) (caps : Array Value) : Value := .func (.func f) #[] caps
set_option maxRecDepth 100000 in
theorem fields_calls {A2 : Option Addr} {n c : Nat} {l : List Fld} {w : World} (hr : Rd w A2 (fvs l)) (hn : l.length = n) (hm : n ≤ 1000000000) (hL : ∀ f ∈ l, Lays w f.T f.fv f.ys) :
    Calls Tryz.prog 120 #[.slice A2 n c] w fun e w' => ∃ f caps T, e = .returned (.func (.func f) #[] caps) ∧ Step nowhere w w' ∧ Lays w' T (.func (.func f) #[] caps) (allYs l) ∧ ∀ x, T x → w.heap.size ≤ x ∨ (fvs l ≠ [] ∧ rowOf A2 x) ∨ ∃ f ∈ l, f.T x := by
  go_enter Tryz.func120, Tryz.ntmps120
  go_wp2_with (first | ((with_reducible apply (wpl_box_slice (dst := some 1))); (exact rfl); intro bl wbl _ _ _))
  go_ret
  have h1 : HB wbl bl 214 #[.slice A2 n c] := inferInstance
  have hst : Step nowhere w wbl := stepN
  have hbl : w.heap.size ≤ bl := Nat.le_of_eq (inferInstance : Born w bl).eq.symm
  have hr2 := hr.later hst.chg
  refine ⟨_, _, fun x => x = bl ∨ (fvs l ≠ [] ∧ rowOf A2 x) ∨ ∃ f ∈ l, f.T x, rfl, hst, ⟨fun x hx => ?_, _, _, rfl, run_enter Tryz.func146 (by kernel_rfl) rfl, fun w1 g A xs hc hw hT hlen => ?_⟩, fun x hx => ?_⟩
  · rcases hx with rfl | ⟨hne, ad, e, hk⟩ | ⟨f, hf, hx⟩
    · exact h1.out.lt
    · rw [← hk]
      exact rd_lt hr2 hne e
    · exact Nat.lt_of_lt_of_le ((hL f hf).low x hx) hst.chg.size
  · have k1 : HB w1 bl 214 #[.slice A2 n c] := ⟨h1.out.chg hc (fun hk => hk (.inl rfl))⟩
    exact fields1_calls hw (hr2.chg hc (fun hne ad e hk => hk (.inr (.inl ⟨hne, ad, e, rfl⟩)))) hn (fun hne ad e hk => hT _ hk (.inr (.inl ⟨hne, ad, e, rfl⟩)))
      (fun f hf => (((hL f hf).later hst.chg (fun _ _ h => h)).later hc (fun x hx hk => hk (.inr (.inr ⟨f, hf, hx⟩))))) (fun f hf x hx hk => hT x hx (.inr (.inr ⟨f, hf, hk⟩))) (by omega) hm
  · rcases hx with rfl | h | h
    · exact .inl hbl
    · exact .inr (.inl h)
    · exact .inr (.inr h)
set_option maxRecDepth 100000 in
theorem laidB1_calls {w : World} {g bl bv n c : Nat} {A A2 : Option Addr} {xs ys : List UInt8} {fx : FuncId} {t1 t2 : TypeId} (hf : fx = 175) (hw : WrAt w g A xs) [hbl : HB w bl t1 #[.func (.func fx) #[] #[]]] [hbv : HB w bv t2 #[.slice A2 n c]] (hr : Rd w A2 (bs ys)) (hn : ys.length = n) (hx : xs.length + ys.length ≤ 10000000000000) :
    Calls Tryz.prog 180 #[.pointer (some ⟨g, 0, none⟩), .pointer (some ⟨bl, 0, none⟩), .pointer (some ⟨bv, 0, none⟩)] w fun e w' => e = .returned (.tuple #[]) ∧ ∃ A', WrAt w' g A' (xs ++ ys) ∧ Chg (Wf g A) w w' ∧ Moved w A A' := by
  subst hf
  go_enter Tryz.func180, Tryz.ntmps180
  go_wp2_with (first | ((with_reducible apply wpl_loadcellN); (exact rfl); infer_instance; (exact rfl)))
  refine (wRaw_calls g A xs A2 n c ys w hw hr hn hx).mono ?_
  rintro e w5 ⟨rfl, A5, h5, h6, h7⟩
  go_wp2_with fail
  go_end0
  exact ⟨rfl, A5, h5.out, h6.out, h7.out⟩
set_option maxRecDepth 100000 in
theorem laidB_calls {A2 : Option Addr} {n c : Nat} {ys : List UInt8} {w : World} (hr : Rd w A2 (bs ys)) (hn : ys.length = n) :
    Calls Tryz.prog 174 #[.func (.func 175) #[] #[], .slice A2 n c] w fun e w' => ∃ f caps T, e = .returned (.func (.func f) #[] caps) ∧ Step nowhere w w' ∧ Lays w' T (.func (.func f) #[] caps) ys ∧ ∀ x, T x → w.heap.size ≤ x ∨ rowOf A2 x := by
  go_enter Tryz.func174, Tryz.ntmps174
  go_wp2_with (first | ((with_reducible apply (wpl_box (dst := some 2) (cs := #[.func (.func 175) #[] #[]]))); (exact rfl); (exact rfl); intro bl wbl _ _ _) | ((with_reducible apply (wpl_box_slice (dst := some 3))); (exact rfl); intro bv wbv _ _ _))
  go_ret
  have h1 : HB wbv bl 237 #[.func (.func 175) #[] #[]] := inferInstance
  have h2 : HB wbv bv 34 #[.slice A2 n c] := inferInstance
  have hst : Step nowhere w wbv := stepN
  have hbl : w.heap.size ≤ bl := Nat.le_of_eq (inferInstance : Born w bl).eq.symm
  have hbv : w.heap.size ≤ bv := by
    have e1 := (inferInstance : Born wbl bv).eq
    have e2 := (inferInstance : SzLe w wbl).out
    omega
  have hr2 := hr.later hst.chg
  refine ⟨_, _, fun x => x = bl ∨ x = bv ∨ (bs ys ≠ [] ∧ rowOf A2 x), rfl, hst, ⟨fun x hx => ?_, _, _, rfl, run_enter Tryz.func180 (by kernel_rfl) rfl, fun w1 g A xs hc hw hT hlen => ?_⟩, fun x hx => ?_⟩
  · rcases hx with rfl | rfl | ⟨hne, ad, e, hk⟩
    · exact h1.out.lt
    · exact h2.out.lt
    · rw [← hk]
      exact rd_lt hr2 hne e
  · have k1 : HB w1 bl 237 #[.func (.func 175) #[] #[]] := ⟨h1.out.chg hc (fun hk => hk (.inl rfl))⟩
    have k2 : HB w1 bv 34 #[.slice A2 n c] := ⟨h2.out.chg hc (fun hk => hk (.inr (.inl rfl)))⟩
    exact laidB1_calls rfl hw (hr2.chg hc (fun hne ad e hk => hk (.inr (.inr ⟨hne, ad, e, rfl⟩)))) hn (by omega)
  · rcases hx with rfl | rfl | ⟨hne, hk⟩
    · exact .inl hbl
    · exact .inl hbv
    · exact .inr hk
set_option maxRecDepth 100000 in
theorem fhash_calls (h : H32) (w : World) :
    Calls Tryz.prog 157 #[.agg (u8s h.l)] w fun e w' => ∃ f caps T, e = .returned (.func (.func f) #[] caps) ∧ Step nowhere w w' ∧ Lays w' T (.func (.func f) #[] caps) h.l ∧ ∀ x, T x → w.heap.size ≤ x := by
  go_enter Tryz.func157, Tryz.ntmps157
  go_wp2_with (first | ((with_reducible apply (wpl_box_agg (dst := some 1))); (exact rfl); intro zb wzb _ _ _))
  have hbz : HB wzb zb 26 (u8s h.l) := inferInstance
  have hz : zb = w.heap.size := (inferInstance : Born w zb).eq
  have hst : Step nowhere w wzb := stepN
  refine (laidB_calls (A2 := some ⟨zb, 0, none⟩) (n := 32) (c := 32) (ys := h.l) hbz.rdL h.len).mono ?_
  rintro e w5 ⟨f, caps, T, rfl, hs, hL, hT⟩
  go_wp2_with fail
  go_ret
  refine ⟨f, caps, T, rfl, ⟨hst.chg.trans hs.chg (fun _ _ h => h)⟩, hL, fun x hx => ?_⟩
  rcases hT x hx with h | ⟨ad, e, hk⟩
  · exact Nat.le_trans hst.chg.size h
  · injection e with e
    subst e
    have hk' : zb = x := hk
    omega
end Go.Proofs.YtmnapacibpnodaaGreat
end
section
open Go Go.RowKit
namespace Go.Proofs.YtmnapacibpnodaaGreat
theorem bs32 (h : H32) : (bs h.l).length = 32 := by rw [bs_length, H32.len]
section
variable {P : Program} {ops : Array Oper} {a : Act} {w : World} {dst : Option Tmp} {ty : TypeId} {pos : String} {after : Array Edge} {gd : Option (Nat × Bool)}
/-- a part of a struct, an array or a struct itself -/
theorem ev_loadMid {t : TypeId} {x : Operand} {g k n : Nat} (hx : a.eval x = .pointer (some ⟨g, k, none⟩)) {tb : TypeId} {cs : Array Value} (hb : HB w g tb cs) (ht : RowT P t n) {part : List Value} (hc : (cs.toList.drop k).take n = part) (hn : part.length = n) (hp : 0 < n) :
    (execOp a.eval ⟨dst, .load t x, ty, pos, after, gd⟩).run P w = .ok (.value (.agg part.toArray)) w := by
  have hr := hb.rdL
  have e : (Value.pointer (some (⟨g, k, none⟩ : Addr))) = ptrOf (some ⟨g, 0, none⟩) k := by rw [ptrOf, shift_some, add_row]
  show ((Instr.loadAt t (a.eval x)) >>= fun v => pure (Next.value v)).run P w = _
  rw [hx, e, Sem.run_bind, run_loadshift (k := k) (cs := part) hr ht hn hc hp]
  rfl
end
def timL (v e s : Int) (h : H32) : List Value := .int .i64 v :: .int .i64 e :: .int .i64 s :: bs h.l
theorem run_int1 (a : Int) (w : World) : (Instr.buildSlice 22 1 #[(0, .int .i64 a)]).run Tryz.prog w = .ok (.slice (some ⟨w.heap.size, 0, none⟩) 1 1) (w.alloc (.cells #[.int .i64 a] 3)) := by kernel_rfl
theorem run_fld2 (f1 f2 : FuncId) (c1 c2 : Array Value) (w : World) : (Instr.buildSlice 214 2 #[(0, .func (.func f1) #[] c1), (1, .func (.func f2) #[] c2)]).run Tryz.prog w = .ok (.slice (some ⟨w.heap.size, 0, none⟩) 2 2) (w.alloc (.cells #[.func (.func f1) #[] c1, .func (.func f2) #[] c2] 189)) := by kernel_rfl
theorem numsC {z n c : Nat} {vs : List Int} {w : World} {t : TypeId} {cs : Array Value} [h : HB w z t cs] (hcs : cs = (is64 vs).toArray) (hn : vs.length = n) (hlim : 9 * vs.length ≤ 1000000000) :
    Calls Tryz.prog 121 #[.slice (some ⟨z, 0, none⟩) n c] w fun e w' => ∃ f caps T, e = .returned (.func (.func f) #[] caps) ∧ Step nowhere w w' ∧ Lays w' T (.func (.func f) #[] caps) (encAll vs) ∧ ∀ x, T x → w.heap.size ≤ x ∨ x = z := by
  have hr := h.rdL
  rw [hcs] at hr
  refine (nums_calls (A2 := some ⟨z, 0, none⟩) (c := c) (by simpa using hr) hn hlim).mono ?_
  rintro e w' ⟨fv, T, rfl, hs, hL, hT⟩
  obtain ⟨f, caps, rfl, _, _⟩ := hL.run
  refine ⟨f, caps, T, rfl, hs, hL, fun x hx => ?_⟩
  rcases hT x hx with h | ⟨ad, e, hk⟩
  · exact .inl h
  · injection e with e
    subst e
    exact .inr hk.symm
/-- two fields, one behind the other -/
theorem fields2 {z c : Nat} {f1 f2 : FuncId} {c1 c2 : Array Value} {T1 T2 : Nat → Prop} {y1 y2 : List UInt8} {w : World} {t : TypeId} [h : HB w z t #[.func (.func f1) #[] c1, .func (.func f2) #[] c2]] (h1 : Lays w T1 (.func (.func f1) #[] c1) y1) (h2 : Lays w T2 (.func (.func f2) #[] c2) y2) :
    Calls Tryz.prog 120 #[.slice (some ⟨z, 0, none⟩) 2 c] w fun e w' => ∃ f caps T, e = .returned (.func (.func f) #[] caps) ∧ Step nowhere w w' ∧ Lays w' T (.func (.func f) #[] caps) (y1 ++ y2) ∧ ∀ x, T x → w.heap.size ≤ x ∨ x = z ∨ T1 x ∨ T2 x := by
  have hr := h.rdL
  refine (fields_calls (A2 := some ⟨z, 0, none⟩) (c := c) (l := [⟨_, T1, y1⟩, ⟨_, T2, y2⟩]) hr rfl (show 2 ≤ 1000000000 by decide) ?_).mono ?_
  · intro f hf
    simp only [List.mem_cons, List.not_mem_nil, or_false] at hf
    rcases hf with rfl | rfl
    · exact h1
    · exact h2
  · rintro e w' ⟨f, caps, T, rfl, hs, hL, hT⟩
    refine ⟨f, caps, T, rfl, hs, ?_, fun x hx => ?_⟩
    · have e2 : allYs [⟨Value.func (.func f1) #[] c1, T1, y1⟩, ⟨Value.func (.func f2) #[] c2, T2, y2⟩] = y1 ++ y2 := by simp [allYs]
      rwa [e2] at hL
    · rcases hT x hx with h | ⟨_, ad, e, hk⟩ | ⟨f, hf, hk⟩
      · exact .inl h
      · injection e with e
        subst e
        exact .inr (.inl hk.symm)
      · simp only [List.mem_cons, List.not_mem_nil, or_false] at hf
        rcases hf with rfl | rfl
        · exact .inr (.inr (.inl hk))
        · exact .inr (.inr (.inr hk))
def numB (n : Int) : Bool := decide (0 ≤ n) && decide (n ≤ 1073741824)
def verB (n : Int) : Bool := decide (1 ≤ n) && decide (n ≤ 1073741824)
theorem number_calls (n : Int) (w : World) : Calls Tryz.prog 69 #[.int .i64 n] w fun e w' => e = .returned (.bool (numB n)) ∧ Step nowhere w w' := by
  by_cases h1 : 0 ≤ n
  · by_cases h2 : n ≤ 1073741824
    · have e : numB n = true := by simp [numB, h1, h2]
      rw [e]
      clear e
      go_enter Tryz.func69, Tryz.ntmps69
      go_wp2_with fail
      go_ret
      exact ⟨rfl, stepN⟩
    · have e : numB n = false := by simp [numB, h2]
      rw [e]
      clear e
      go_enter Tryz.func69, Tryz.ntmps69
      go_wp2_with fail
      go_ret
      exact ⟨rfl, stepN⟩
  · have e : numB n = false := by simp [numB, h1]
    rw [e]
    clear e
    go_enter Tryz.func69, Tryz.ntmps69
    go_wp2_with fail
    go_ret
    exact ⟨rfl, stepN⟩
theorem version_calls (n : Int) (w : World) : Calls Tryz.prog 123 #[.int .i64 n] w fun e w' => e = .returned (.bool (verB n)) ∧ Step nowhere w w' := by
  by_cases h1 : 1 ≤ n
  · by_cases h2 : n ≤ 1073741824
    · have e : verB n = true := by simp [verB, h1, h2]
      rw [e]
      clear e
      go_enter Tryz.func123, Tryz.ntmps123
      go_wp2_with fail
      go_ret
      exact ⟨rfl, stepN⟩
    · have e : verB n = false := by simp [verB, h2]
      rw [e]
      clear e
      go_enter Tryz.func123, Tryz.ntmps123
      go_wp2_with fail
      go_ret
      exact ⟨rfl, stepN⟩
  · have e : verB n = false := by simp [verB, h1]
    rw [e]
    clear e
    go_enter Tryz.func123, Tryz.ntmps123
    go_wp2_with fail
    go_ret
    exact ⟨rfl, stepN⟩
def timB (v e s : Int) : Bool := verB v && numB e && verB s
/-- what encode answers -/
def EncPost (ok : Bool) (bytes : List UInt8) (w : World) : Ending → World → Prop := fun e w' => Step nowhere w w' ∧
  if ok then ∃ A n c, e = .returned (.tuple #[.slice A n c, .int .i64 0]) ∧ n = bytes.length ∧ HO w' 5 1 A n c (bs bytes) ∧ NewA w A
  else e = .returned (.tuple #[.slice none 0 0, .int .i64 1])
end Go.Proofs.YtmnapacibpnodaaGreat
end
section
open Go Go.RowKit
namespace Go.Proofs.YtmnapacibpnodaaGreat
set_option maxRecDepth 100000 in
set_option maxHeartbeats 400000 in
theorem wBytes_calls (g : Nat) (A : Option Addr) (xs : List UInt8) (A2 : Option Addr) (n c2 : Nat) (l : List Row) (w : World) (hw : WrAt w g A xs) (hr : Rd w A2 (rowsV l)) (hn : l.length = n)
    (hA2 : Apart (Wf g A) A2 (rowsV l)) (hrow : ∀ r ∈ l, Rd w r.A (bs r.p) ∧ Apart (Wf g A) r.A (bs r.p)) (hx : xs.length + rowsSize l ≤ 900000000000) :
    Calls Tryz.prog 172 #[.pointer (some ⟨g, 0, none⟩), .slice A2 n c2] w fun e w' => e = .returned (.tuple #[]) ∧ ∃ A', Hid (WrAt w' g A' (xs ++ encRows l)) ∧
      Hid (Chg (Wf g A) w w') ∧ Hid (Moved w A A') := by
  have hsz := rowsSize_len l
  have HX := Lib.hid hx
  have HN := Lib.hid hn
  have HR := Lib.hid hr
  have HF := Lib.hid hA2
  have HROW := Lib.hid hrow
  have hn9 : n ≤ 9223372036854775807 := by omega
  clear hx hn hr hA2 hrow hsz
  go_enter Tryz.func172, Tryz.ntmps172
  go_wp2
  go_loopw [8] (fun t wr => ∃ (k : Nat) (A1 : Option Addr), k ≤ n ∧ t = .int .i64 k ∧ WrAt wr g A1 (xs ++ encRows (l.take k)) ∧
      Chg (Wf g A) w wr ∧ Moved w A A1) (fun t _ => n - (intOf t).toNat)
  case atStart => exact ⟨0, A, Nat.zero_le _, rfl, by simpa [encRows] using hw, Chg.refl _ _, .inl rfl⟩
  case round =>
    obtain ⟨k, A1, hk, rfl, hw1, hchg, hA⟩ := hrel
    have HW1 := Lib.hid hw1
    have HCHG := Lib.hid hchg
    have HA := Lib.hid hA
    clear hw1 hchg hA
    by_cases hlt : k < n
    · have e1 : (k : Int) < n := by omega
      have hkl : k < l.length := by have := HN.out; omega
      obtain ⟨ad, rfl, hc⟩ := (HR.out.chg HCHG.out HF.out) k l[k].v (by simp [rowsV, hkl])
      have hsn := encRows_snoc (l.take k) l[k]
      rw [List.take_append_getElem hkl] at hsn
      have hmem : l[k] ∈ l := List.getElem_mem hkl
      have hq := HROW.out l[k] hmem
      have hsize : rowsSize (l.take k) + (l[k].p.length + 10) ≤ rowsSize l := by
        have h1 := rowsSize_take l k
        rw [List.drop_eq_getElem_cons hkl] at h1
        simp only [rowsSize] at h1
        omega
      have hlen := encRows_len (l.take k) (fun r hr => by
        have h1 := rowsSize_take l k
        have h2 := rowsSize_mem hr
        have := HX.out
        omega)
      rcases hrk : l[k] with ⟨RA, rc, p⟩
      rw [hrk] at hc hsn hq hsize
      have HSN := Lib.hid hsn
      have HQ := Lib.hid hq
      have HS := Lib.hid hsize
      have HLEN := Lib.hid hlen
      clear hsn hq hsize hlen hmem hkl hrk
      have hc' : wr.cell? (ad.add k) = some (.slice RA p.length rc) := hc
      clear hc
      have hp9 : p.length ≤ 9223372036854775807 := by have := HS.out; have := HX.out; simp at *; omega
      go_wp2_with fail
      refine (Nums_calls g A1 _ _ _ _ [(p.length : Int)] _ (HW1.out.chg (S := nowhere) ((Chg.refl _ _).alloc _) (fun _ _ h => h)) (Rd.lit _ [_] _) rfl ?_ ?_).mono ?_
      · exact HW1.out.fresh (Nat.le_refl _) _
      · have h1 := HLEN.out
        have h2 := HS.out
        have h3 := HX.out
        simp at h1 h2 h3 ⊢
        omega
      rintro e w1 ⟨rfl, A3, h1, h2, h3⟩
      obtain ⟨h4, h5⟩ := wf_trans (HCHG.out.alloc _) HA.out h2 h3
      have H1 := Lib.hid h1
      have H4 := Lib.hid h4
      have H5 := Lib.hid h5
      clear h1 h2 h3 h4 h5
      go_wp2_with fail
      refine (wRaw_calls g A3 _ _ _ _ p _ H1.out (HQ.out.1.chg H4.out HQ.out.2) rfl ?_).mono ?_
      · have h1 := HLEN.out
        have h2 := HS.out
        have h3 := HX.out
        have h4 := encAll_len [(p.length : Int)]
        simp at h1 h2 h3 h4 ⊢
        omega
      rintro e w2 ⟨rfl, A4, h1, h2, h3⟩
      go_wp2
      obtain ⟨h4, h5⟩ := wf_trans H4.out H5.out h2.out h3.out
      refine ⟨⟨k + 1, A4, by omega, by go_num, ?_, h4, h5⟩, by simp [intOf]; omega⟩
      have h6 := h1.out
      rw [HSN.out]
      have h7 : encAll [(p.length : Int)] = enc p.length := by
        rw [encAll_one, clampN_nat _ (by have h2 := HS.out; have h3 := HX.out; omega)]
      rw [h7] at h6
      simpa [encRow] using h6
    · have e1 : (n : Int) ≤ k := by omega
      go_wp2
      go_end0
      refine ⟨rfl, A1, ?_, HCHG.out, HA.out⟩
      have := HW1.out
      rwa [List.take_of_length_le (by have := HN.out; omega)] at this
end Go.Proofs.YtmnapacibpnodaaGreat
end
section
open Go Go.RowKit
namespace Go.Proofs.YtmnapacibpnodaaGreat
section
variable {P : Program} {ops : Array Oper} {rest : List Oper} {a : Act} {w : World} {Q : Exit → Act → World → Prop} {dst : Option Tmp} {ty : TypeId} {pos : String} {after : Array Edge}
/-- a byte of a text -/
theorem wpl_indexStr {t : TypeId} {x ix : Operand} {s : ByteArray} {l : List UInt8} {k v : Nat} (hs : s.data.toList = l) (hv : (bget l k).toNat = v) (hx : a.eval x = .string s) (hi : a.eval ix = .int .i64 (k : Int)) (hu : P.underlying t = some .string) (hk : k < l.length)
    (h : wpList P ops Q rest (a.put dst (.int .u8 (v : Int))) w) : wpList P ops Q (⟨dst, .index t x ix, ty, pos, after, none⟩ :: rest) a w :=
  wpl_of_run rfl (by
    subst hs
    have hsz : s.data.toList.length = s.size := Array.length_toList
    have h1 : (0 : Int) ≤ (k : Int) ∧ (k : Int) < s.size := by omega
    show ((Instr.index t (a.eval x) (a.eval ix)) >>= fun v => pure (Next.value v)).run P w = _
    rw [hx, hi, Sem.run_bind, run_index_string w t s .i64 (k : Int) hu, dif_pos h1]
    have e : (s[(k : Int).toNat]'(by omega)).toNat = v := by
      rw [← hv]
      have hk2 : k < s.data.size := by rw [← Array.length_toList]; exact hk
      have e1 : s[(k : Int).toNat]'(by omega) = s.data[k] := rfl
      have e2 : s.data[k]? = some s.data[k] := Array.getElem?_eq_getElem hk2
      rw [e1]
      simp only [bget, List.getD_eq_getElem?_getD, Array.getElem?_toList, e2, Option.getD_some]
    rw [e]
    rfl) h
end
theorem good_case (v : Nat) {g : Bool} (hg : g = ((decide (97 ≤ v) && decide (v ≤ 122)) || (decide (48 ≤ v) && decide (v ≤ 57)) || decide (v = 45))) :
    (g = true ∧ ((97 ≤ (v : Int) ∧ (v : Int) ≤ 122) ∨ (97 ≤ (v : Int) ∧ ¬ (v : Int) ≤ 122 ∧ False) ∨ (¬ 97 ≤ (v : Int) ∧ 48 ≤ (v : Int) ∧ (v : Int) ≤ 57) ∨ (¬ 97 ≤ (v : Int) ∧ ¬ 48 ≤ (v : Int) ∧ ((v : Int) == 45) = true))) ∨ (g = false ∧ ((97 ≤ (v : Int) ∧ ¬ (v : Int) ≤ 122 ∧ 48 ≤ (v : Int) ∧ ¬ (v : Int) ≤ 57 ∧ ((v : Int) == 45) = false) ∨ (¬ 97 ≤ (v : Int) ∧ 48 ≤ (v : Int) ∧ ¬ (v : Int) ≤ 57 ∧ ((v : Int) == 45) = false) ∨ (¬ 97 ≤ (v : Int) ∧ ¬ 48 ≤ (v : Int) ∧ ((v : Int) == 45) = false))) := by
  subst hg
  by_cases a1 : 97 ≤ v
  · by_cases a2 : v ≤ 122
    · exact .inl ⟨by simp [a1, a2], .inl ⟨by omega, by omega⟩⟩
    · exact .inr ⟨by simp [a1, a2]; omega, .inl ⟨by omega, by omega, by omega, by omega, beqF (by omega)⟩⟩
  · by_cases a3 : 48 ≤ v
    · by_cases a4 : v ≤ 57
      · exact .inl ⟨by simp [a3, a4], .inr (.inr (.inl ⟨by omega, by omega, by omega⟩))⟩
      · exact .inr ⟨by simp [a1, a4]; omega, .inr (.inl ⟨by omega, by omega, by omega, beqF (by omega)⟩)⟩
    · by_cases a5 : v = 45
      · exact .inl ⟨by simp [a5], .inr (.inr (.inr ⟨by omega, by omega, beqT (by omega)⟩))⟩
      · exact .inr ⟨by simp [a1, a3, a5], .inr (.inr ⟨by omega, by omega, beqF (by omega)⟩)⟩
end Go.Proofs.YtmnapacibpnodaaGreat
end
section
open Go Go.RowKit
namespace Go.Proofs.YtmnapacibpnodaaGreat
def snapV (v e : Int) : Array Value := #[.int .i64 v, .int .i64 e, .slice none 0 0]
def snapB (v e : Int) : Bool := verB v && numB e
end Go.Proofs.YtmnapacibpnodaaGreat
end
section
open Go Go.RowKit
namespace Go.Proofs.YtmnapacibpnodaaGreat
theorem run_int2 (a b : Int) (w : World) : (Instr.buildSlice 22 2 #[(0, .int .i64 a), (1, .int .i64 b)]).run Tryz.prog w = .ok (.slice (some ⟨w.heap.size, 0, none⟩) 2 2) (w.alloc (.cells #[.int .i64 a, .int .i64 b] 3)) := by kernel_rfl
end Go.Proofs.YtmnapacibpnodaaGreat
end
section
open Go Go.RowKit
namespace Go.Proofs.YtmnapacibpnodaaGreat
theorem u8_or_128' (m : Nat) : Value.int .u8 (bits .or .u8 ((m : Int) % 128) 128) = u8v (UInt8.ofNat (m % 128 + 128)) := by
  have h := u8_or_128 (m % 128)
  rw [show (((m % 128 : Nat) : Int) % 256) = (m : Int) % 128 by omega, Nat.mod_mod] at h
  exact h
theorem u64_and127 (m : Nat) (h : m < 18446744073709551616) : bits .and .u64 (m : Int) 127 = ((m % 128 : Nat) : Int) := by
  rw [show (127 : Int) = ((127 : Nat) : Int) from rfl, u64_and_nat m 127 h (by decide), nat_mask7]
set_option maxRecDepth 100000 in
set_option maxHeartbeats 400000 in
theorem refNum_calls (v : Int) (w : World) :
    Calls Tryz.prog 37 #[.int .i64 v] w fun e w' => ∃ A n c, e = .returned (.slice A n c) ∧ Hid (Fresh w w' A n c (enc (clampN v))) := by
  have hle := clampN_le v
  have HLEN := Lib.hid (enc_len (clampN v) hle)
  have hcl : (v ≤ 0 ∧ clampN v = 0) ∨ ((0 < v ∧ v ≤ 4611686018427387904) ∧ (clampN v : Int) = v) ∨ (4611686018427387904 < v ∧ clampN v = 4611686018427387904) := by
    unfold clampN; omega
  obtain ⟨N, hN⟩ : ∃ N, N = clampN v := ⟨_, rfl⟩
  rw [← hN] at hcl hle HLEN ⊢
  have hN9 : N ≤ 9223372036854775807 := by omega
  clear hN hle
  rcases hcl with ⟨hv, hcl⟩ | ⟨⟨hv, hv2⟩, hcl⟩ | ⟨hv, hcl⟩
  all_goals
    have HCL := Lib.hid hcl
    clear hcl
    go_enter Tryz.func37, Tryz.ntmps37
    go_wp2_with fail
    go_loopw [3, 4] (fun t u wr => ∃ (m : Nat) (A1 : Option Addr) (n1 c1 : Nat) (pre : List UInt8), m ≤ N ∧ t = .int .u64 m ∧ u = .slice A1 n1 c1 ∧ Fresh w wr A1 n1 c1 pre ∧ pre ++ enc m = enc N) (fun t _ _ => (intOf t).toNat)
    case atStart => exact ⟨N, none, 0, 0, [], Nat.le_refl _, by have := HCL.out; first | (rw [this]; rfl) | (rw [this]; go_num) | (rw [← this]), rfl, Fresh.nil _, rfl⟩
    case round =>
      obtain ⟨m, A1, n1, c1, pre, hm, rfl, rfl, hfr, henc⟩ := hrel
      have hpre : pre.length ≤ 9 := by have h1 := congrArg List.length henc; have h2 := HLEN.out; simp at h1; omega
      have hm64 : m < 18446744073709551616 := by omega
      have HF := Lib.hid hfr
      have HENC := Lib.hid henc
      have HB : Hid (n1 + 1 ≤ lim) := hid_lim (by rw [hfr.len]; omega)
      have q1 := u64_and127 m hm64
      clear hfr henc hm64
      by_cases hlt : m < 128
      · have e1 : (m : Int) < 128 := by omega
        go_wp2_with (at_builtin; refine wpList_append_one rfl (.tmp 22) (.tmp 25) elemB rfl (Nat.le_refl _) rfl (HF.out.own.alloc _) rfl (Rd.lit _ [_] _) rfl HB ?_)
        intro A2 c2 w2 hown2 hchg2 hA2
        rw [u8_low m hlt, show bs pre ++ [u8v (UInt8.ofNat m)] = bs (pre ++ [UInt8.ofNat m]) by simp [bs]] at hown2
        have HP := Lib.hid (HF.out.push ((Chg.refl nowhere wr).alloc _) hchg2 hown2 (by rw [HF.out.len]; simp) (hA2.imp id fun h => ⟨_, h, by omega⟩))
        clear hown2 hchg2 hA2
        go_wp2_with fail
        go_ret
        refine ⟨A2, n1 + 1, c2, rfl, ?_⟩
        have := HENC.out
        rw [enc_small hlt] at this
        rw [← this]
        exact HP.out
      · have e1 : 128 ≤ (m : Int) := by omega
        go_wp2_with (at_builtin; refine wpList_append_one rfl (.tmp 13) (.tmp 18) elemB rfl (Nat.le_refl _) rfl (HF.out.own.alloc _) rfl (Rd.lit _ [_] _) rfl HB ?_)
        intro A2 c2 w2 hown2 hchg2 hA2
        rw [u8_or_128' m, show bs pre ++ [u8v (UInt8.ofNat (m % 128 + 128))] = bs (pre ++ [UInt8.ofNat (m % 128 + 128)]) by simp [bs]] at hown2
        have HP := Lib.hid (HF.out.push ((Chg.refl nowhere wr).alloc _) hchg2 hown2 (by rw [HF.out.len]; simp) (hA2.imp id fun h => ⟨_, h, by omega⟩))
        clear hown2 hchg2 hA2
        go_wp2_with fail
        have := HENC.out
        rw [enc_large hlt] at this
        exact ⟨⟨m / 128, A2, n1 + 1, c2, pre ++ [UInt8.ofNat (m % 128 + 128)], by omega, by go_num, rfl, HP.out, by rw [← this, List.append_assoc]; rfl⟩, by simp [intOf]; omega⟩
end Go.Proofs.YtmnapacibpnodaaGreat
end
section
open Go Go.RowKit
namespace Go.Proofs.YtmnapacibpnodaaGreat
set_option maxRecDepth 100000 in
set_option maxHeartbeats 400000 in
theorem refNums_calls (A : Option Addr) (n c : Nat) (vs : List Int) (w : World) (hr : Rd w A (is64 vs)) (hn : vs.length = n) (hx : n ≤ 1000000000) :
    Calls Tryz.prog 39 #[.slice A n c] w fun e w' => ∃ A' n' c', e = .returned (.slice A' n' c') ∧ Hid (Fresh w w' A' n' c' (encAll vs)) := by
  have HR := Lib.hid hr
  have HN := Lib.hid hn
  have hn9 : n ≤ 9223372036854775807 := by omega
  have HX := Lib.hid hx
  clear hr hn hx
  go_enter Tryz.func39, Tryz.ntmps39
  go_wp2_with fail
  go_loopw [3, 4] (fun u t wr => ∃ (k : Nat) (A1 : Option Addr) (n1 c1 : Nat), k ≤ n ∧ t = .int .i64 k ∧ u = .slice A1 n1 c1 ∧ Fresh w wr A1 n1 c1 (encAll (vs.take k))) (fun _ t _ => n - (intOf t).toNat)
  case atStart => exact ⟨0, none, 0, 0, Nat.zero_le _, rfl, rfl, Fresh.nil _⟩
  case round =>
    obtain ⟨k, A1, n1, c1, hk, rfl, rfl, hfr⟩ := hrel
    have HF := Lib.hid hfr
    clear hfr
    by_cases hlt : k < n
    · have e1 : (k : Int) < n := by omega
      have hkv : k < vs.length := by have := HN.out; omega
      obtain ⟨ad, rfl, hc⟩ := (HR.out.later HF.out.chg) k (.int .i64 vs[k]) (by simp [is64, hkv])
      have hsn := encAll_snoc (vs.take k) vs[k]
      rw [List.take_append_getElem hkv] at hsn
      have hl1 := encAll_len (vs.take k)
      rw [List.length_take] at hl1
      generalize vs[k] = v at hc hsn
      have HSN := Lib.hid hsn
      have HL1 := Lib.hid hl1
      clear hkv hsn hl1
      go_wp2_with fail
      refine (refNum_calls v _).mono ?_
      rintro e w1 ⟨A2, n2, c2, rfl, h2⟩
      have HM : Hid ((bs (enc (clampN v))).length = n2) := Lib.hid (by rw [bs_length]; exact h2.out.len.symm)
      have HB : Hid (n1 + n2 ≤ lim) := hid_lim (by
        have h3 := HF.out.len
        have h4 := h2.out.len
        have h5 := HL1.out
        have h6 := enc_len _ (clampN_le v)
        have h7 := HX.out
        omega)
      have HO : Hid (Own w1 5 1 A1 n1 c1 (bs (encAll (vs.take k)))) := Lib.hid (HF.out.own.chg h2.out.chg (fun _ _ h => h))
      go_wp2_with (at_builtin; refine wpList_append_many rfl (.tmp 11) (.tmp 16) elemB rfl (Nat.le_refl _) rfl HO.out rfl h2.out.rd HM (bs_one _) HB ?_)
      intro A3 c3 w3 hown3 hchg3 hA3
      rw [bs_append] at hown3
      have HP := Lib.hid (HF.out.push h2.out.chg hchg3 hown3 (by rw [HF.out.len, h2.out.len]; simp) (hA3.imp id fun h => ⟨_, h, h2.out.chg.size⟩))
      clear hown3 hchg3 hA3
      go_wp2_with fail
      exact ⟨⟨k + 1, A3, n1 + n2, c3, by omega, by go_num, rfl, by rw [HSN.out]; exact HP.out⟩, by simp [intOf]; omega⟩
    · have e1 : (n : Int) ≤ k := by omega
      go_wp2_with fail
      go_ret
      refine ⟨A1, n1, c1, rfl, ?_⟩
      have := HF.out
      rwa [List.take_of_length_le (by have := HN.out; omega)] at this
end Go.Proofs.YtmnapacibpnodaaGreat
end
section
open Go Go.RowKit
namespace Go.Proofs.YtmnapacibpnodaaGreat
set_option maxRecDepth 100000 in
set_option maxHeartbeats 400000 in
theorem refBytes_calls (A : Option Addr) (n c : Nat) (xs : List UInt8) (w : World) (hr : Rd w A (bs xs)) (hn : xs.length = n) (hx : n ≤ 1000000000) :
    Calls Tryz.prog 62 #[.slice A n c] w fun e w' => ∃ A' n' c', e = .returned (.slice A' n' c') ∧ Hid (Fresh w w' A' n' c' (encRow xs)) := by
  have HR := Lib.hid hr
  have HN := Lib.hid hn
  have hn9 : n ≤ 9223372036854775807 := by omega
  have HX := Lib.hid hx
  have HM : Hid ((bs xs).length = n) := Lib.hid (by rw [bs_length]; exact hn)
  clear hr hn hx
  go_enter Tryz.func62, Tryz.ntmps62
  go_wp2_with fail
  refine (refNum_calls (n : Int) _).mono ?_
  rintro e w1 ⟨A2, n2, c2, rfl, h2⟩
  have hcl : clampN (n : Int) = xs.length := by rw [HN.out]; exact clampN_nat n (by have := HX.out; omega)
  rw [hcl] at h2
  have HB : Hid (n2 + n ≤ lim) := hid_lim (by
    have h4 := h2.out.len
    have h6 := enc_len xs.length (by rw [HN.out]; have := HX.out; omega)
    have h7 := HX.out
    omega)
  clear hcl
  go_wp2_with (at_builtin; refine wpList_append_many rfl (.tmp 5) (.tmp 6) elemB rfl (Nat.le_refl _) rfl h2.out.own rfl (HR.out.later h2.out.chg) HM (bs_one _) HB ?_)
  intro A3 c3 w3 hown3 hchg3 hA3
  rw [bs_append] at hown3
  have HP := Lib.hid (h2.out.push (Chg.refl nowhere _) hchg3 hown3 (by rw [h2.out.len, ← HN.out]; simp) (hA3.imp id fun h => ⟨_, h, Nat.le_refl _⟩))
  clear hown3 hchg3 hA3
  go_wp2_with fail
  go_ret
  exact ⟨A3, n2 + n, c3, rfl, HP⟩
end Go.Proofs.YtmnapacibpnodaaGreat
end
