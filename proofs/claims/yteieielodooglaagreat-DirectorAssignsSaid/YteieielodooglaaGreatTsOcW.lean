/- OcW -/
import Derived.Test.YteieielodooglaaGreatTsOcSpec
import Derived.Test.YteieielodooglaaGreatTsOcEl
open Go Go.RowKit
namespace Go.Proofs.YteieielodooglaaGreat
/-- a Writer at block g, whose bytes lie at A -/
structure WrAt (w : World) (g : Nat) (A : Option Addr) (xs : List UInt8) : Prop where
  ex : ∃ n c, n = xs.length ∧ Blk w g 189 #[.slice A n c] ∧ Own w 5 1 A n c (bs xs)
  far : ∀ ad, A = some ad → ad.block ≠ g
theorem WrAt.lt {w : World} {g : Nat} {A : Option Addr} {xs : List UInt8} (h : WrAt w g A xs) : g < w.heap.size := by
  obtain ⟨⟨_, _, _, hb, _⟩, _⟩ := h
  exact hb.lt
theorem WrAt.old {w : World} {g : Nat} {A : Option Addr} {xs : List UInt8} (h : WrAt w g A xs) : ∀ k, Wf g A k → k < w.heap.size := by
  obtain ⟨⟨_, _, _, hb, ho⟩, _⟩ := h
  rintro k (rfl | ⟨ad, e, rfl⟩)
  · exact hb.lt
  · exact ho.lt e
theorem WrAt.fresh {w : World} {g : Nat} {A : Option Addr} {xs : List UInt8} (h : WrAt w g A xs) {z : Nat} (hz : w.heap.size ≤ z) (vs : List Value) : Apart (Wf g A) (some (⟨z, 0, none⟩ : Addr)) vs := by
  intro _ ad e hW
  injection e with e
  subst e
  have := h.old _ hW
  simp at this
  omega
theorem WrAt.chg {S : Nat → Prop} {w w' : World} {g : Nat} {A : Option Addr} {xs : List UInt8} (h : WrAt w g A xs) (hc : Chg S w w') (hS : ∀ k, Wf g A k → ¬ S k) : WrAt w' g A xs := by
  obtain ⟨⟨n, c, hn, hb, ho⟩, hf⟩ := h
  exact ⟨⟨n, c, hn, hb.chg hc (hS g (.inl rfl)), ho.chg hc (fun ad e => hS _ (.inr ⟨ad, e, rfl⟩))⟩, hf⟩
/-- behind an append, and the store of the new header -/
theorem wr_push {w wx w2 : World} {g : Nat} {A A' : Option Addr} {L L' c c' : Nat} {zs : List UInt8} (hblk : Blk w g 189 #[.slice A L c]) (hfar : ∀ ad, A = some ad → ad.block ≠ g)
    (h0 : Chg nowhere w wx) (hchg : Chg (fun k => ∃ ad, A = some ad ∧ ad.block = k) wx w2) (hown : Own w2 5 1 A' L' c' (bs zs)) (hL : L' = zs.length)
    (hA : A' = A ∨ ∃ z, A' = some ⟨z, 0, none⟩ ∧ w.heap.size ≤ z) :
    WrAt (w2.setCell ⟨g, 0, none⟩ (.slice A' L' c')) g A' zs ∧ Chg (Wf g A) w (w2.setCell ⟨g, 0, none⟩ (.slice A' L' c')) ∧ Moved w A A' := by
  have hg := hblk.lt
  have hfar' : ∀ ad, A' = some ad → ad.block ≠ g := by
    rintro ad rfl
    rcases hA with rfl | hA
    · exact hfar ad rfl
    · obtain ⟨z, hA, hz⟩ := hA
      injection hA with hA
      subst hA
      show z ≠ g
      omega
  have hb2 : Blk w2 g 189 #[.slice A L c] := (hblk.chg h0 (fun h => h)).chg hchg (fun ⟨ad, e, h⟩ => hfar ad e h)
  refine ⟨⟨⟨L', c', hL, hb2.set_ 0 _, hown.far hfar' _⟩, hfar'⟩, ?_, ?_⟩
  · refine ((h0.mono (fun _ _ h => h.elim)).trans hchg (fun x _ h => .inr h)).setCell (fun _ => .inl rfl) _
  · rcases hA with rfl | ⟨z, rfl, hz⟩
    · exact .inl rfl
    · exact .inr ⟨_, rfl, hz⟩
theorem u8_or_128 (m : Nat) : Value.int .u8 (bits .or .u8 ((m : Int) % 256) 128) = u8v (UInt8.ofNat (m % 128 + 128)) := by
  have h1 : ((m : Int) % 256) = ((m % 256 : Nat) : Int) := by omega
  have h2 : ((128 : Int)) = ((128 : Nat) : Int) := rfl
  have h3 : m % 256 ||| 128 = m % 128 + 128 := by
    have h4 : m % 256 = 128 * (m / 128 % 2) + m % 128 := by omega
    rcases Nat.mod_two_eq_zero_or_one (m / 128) with h5 | h5
    · rw [h5] at h4
      rw [h4, Nat.or_comm]
      have := nat_join 7 128 (128 * 0 + m % 128) (by decide) (by omega)
      omega
    · rw [h5] at h4
      rw [h4, Nat.or_comm]
      have h6 := nat_join 7 128 (m % 128) (by decide) (by omega)
      rw [show 128 * 1 + m % 128 = 128 ||| m % 128 by omega, ← Nat.or_assoc, show 128 ||| 128 = 128 from rfl, h6]
      omega
  rw [h1, h2, u8_or_nat _ _ (by omega) (by omega), h3]
  simp [u8v]
  omega
theorem u8_low (m : Nat) (h : m < 128) : Value.int .u8 (m : Int) = u8v (UInt8.ofNat m) := by
  simp [u8v]
  omega
set_option maxRecDepth 100000 in
set_option maxHeartbeats 400000 in
theorem num_calls (g : Nat) (A : Option Addr) (xs : List UInt8) (n : Nat) (w : World) (hw : WrAt w g A xs) (hn : n ≤ 4611686018427387904) (hx : xs.length ≤ 1000000000000) :
    Calls Tryz.prog 194 #[.pointer (some ⟨g, 0, none⟩), .int .i64 n] w fun e w' => e = .returned (.tuple #[]) ∧ ∃ A', WrAt w' g A' (xs ++ enc n) ∧
      Chg (Wf g A) w w' ∧ Moved w A A' := by
  have hlen := enc_len n hn
  have HX := Lib.hid hx
  have HN := Lib.hid hn
  have hn9 : n ≤ 9223372036854775807 := by omega
  clear hx hn
  go_enter Tryz.func194, Tryz.ntmps194
  go_wp2
  go_loopw [1] (fun t wr => ∃ (m : Nat) (A1 : Option Addr) (pre : List UInt8), m ≤ n ∧ t = .int .i64 m ∧ WrAt wr g A1 (xs ++ pre) ∧ pre ++ enc m = enc n ∧
      Chg (Wf g A) w wr ∧ Moved w A A1) (fun t _ => (intOf t).toNat)
  case atStart => exact ⟨n, A, [], Nat.le_refl _, rfl, by simpa using hw, rfl, Chg.refl _ _, .inl rfl⟩
  case round =>
    obtain ⟨m, A1, pre, hm, rfl, ⟨⟨L, c, hL, hblk, hown⟩, hfar⟩, henc, hchg, hA⟩ := hrel
    have hc0 : wr.cell? ⟨g, 0, none⟩ = some (.slice A1 L c) := hblk.cell 0
    have hf0 : wr.frozen? ⟨g, 0, none⟩ = false := hblk.frozen 0
    have hm9 : m ≤ 9223372036854775807 := by omega
    have hpre : pre.length ≤ 9 := by have := congrArg List.length henc; simp at this; omega
    have HLB : Hid (L ≤ 1000000000009) := Lib.hid (by have := HX.out; simp at hL; omega)
    have HBLK := Lib.hid hblk
    have HOWN := Lib.hid hown
    have HFAR := Lib.hid hfar
    have HENC := Lib.hid henc
    have HCHG := Lib.hid hchg
    have HA := Lib.hid hA
    have HL := Lib.hid hL
    clear hblk hown hfar henc hchg hA hL
    have HB : Hid (L + 1 ≤ lim) := hid_lim (by have := HLB.out; omega)
    by_cases hlt : m < 128
    · have e1 : (m : Int) < 128 := by omega
      go_wp2_with (at_builtin; refine wpList_append_one rfl (.tmp 24) (.tmp 27) elemB rfl (Nat.le_refl _) rfl (HOWN.out.alloc _) rfl (Rd.lit _ [_] _) rfl HB ?_)
      intro A2 c2 w2 hown2 hchg2 hA2
      rw [u8_low m hlt, show bs (xs ++ pre) ++ [u8v (UInt8.ofNat m)] = bs ((xs ++ pre) ++ [UInt8.ofNat m]) by simp [bs]] at hown2
      have hb2 := (HBLK.out.alloc _).chg hchg2 (fun ⟨ad, e, h⟩ => HFAR.out ad e h)
      have hc2 : w2.cell? ⟨g, 0, none⟩ = some (.slice A1 L c) := hb2.cell 0
      have hf2 : w2.frozen? ⟨g, 0, none⟩ = false := hb2.frozen 0
      have HP := Lib.hid (wr_push HBLK.out HFAR.out ((Chg.refl nowhere wr).alloc _) hchg2 hown2 (by have := HL.out; simp at this ⊢; omega) (hA2.imp id fun h => ⟨_, h, by omega⟩))
      clear hown2 hchg2 hA2 hb2
      go_wp2
      go_end0
      obtain ⟨h1, h2, h3⟩ := HP.out
      obtain ⟨h4, h5⟩ := wf_trans HCHG.out HA.out h2 h3
      have := HENC.out
      rw [enc_small hlt] at this
      exact ⟨rfl, A2, by rw [← this, ← List.append_assoc]; exact h1, h4, h5⟩
    · have e1 : 128 ≤ (m : Int) := by omega
      go_wp2_with (at_builtin; refine wpList_append_one rfl (.tmp 12) (.tmp 16) elemB rfl (Nat.le_refl _) rfl (HOWN.out.alloc _) rfl (Rd.lit _ [_] _) rfl HB ?_)
      intro A2 c2 w2 hown2 hchg2 hA2
      rw [u8_or_128 m, show bs (xs ++ pre) ++ [u8v (UInt8.ofNat (m % 128 + 128))] = bs (xs ++ (pre ++ [UInt8.ofNat (m % 128 + 128)])) by simp [bs]] at hown2
      have hb2 := (HBLK.out.alloc _).chg hchg2 (fun ⟨ad, e, h⟩ => HFAR.out ad e h)
      have hc2 : w2.cell? ⟨g, 0, none⟩ = some (.slice A1 L c) := hb2.cell 0
      have hf2 : w2.frozen? ⟨g, 0, none⟩ = false := hb2.frozen 0
      have HP := Lib.hid (wr_push HBLK.out HFAR.out ((Chg.refl nowhere wr).alloc _) hchg2 hown2 (by have := HL.out; simp at this ⊢; omega) (hA2.imp id fun h => ⟨_, h, by omega⟩))
      clear hown2 hchg2 hA2 hb2
      go_wp2
      obtain ⟨h1, h2, h3⟩ := HP.out
      obtain ⟨h4, h5⟩ := wf_trans HCHG.out HA.out h2 h3
      have := HENC.out
      rw [enc_large hlt] at this
      exact ⟨⟨m / 128, A2, pre ++ [UInt8.ofNat (m % 128 + 128)], by omega, by go_num, h1, by rw [← this, List.append_assoc]; rfl, h4, h5⟩, by simp [intOf]; omega⟩
theorem num_any (g : Nat) (A : Option Addr) (xs : List UInt8) (v : Int) (w : World) (hw : WrAt w g A xs) (h0 : 0 ≤ v) (hn : v ≤ 4611686018427387904) (hx : Hid (xs.length ≤ 1000000000000)) :
    Calls Tryz.prog 194 #[.pointer (some ⟨g, 0, none⟩), .int .i64 v] w fun e w' => e = .returned (.tuple #[]) ∧ ∃ A', Hid (WrAt w' g A' (xs ++ enc v.toNat)) ∧
      Hid (Chg (Wf g A) w w') ∧ Hid (Moved w A A') := by
  obtain ⟨n, rfl⟩ := Int.eq_ofNat_of_zero_le h0
  exact num_calls g A xs n w hw (by omega) hx.out
def is64 (vs : List Int) : List Value := vs.map (.int .i64)
set_option maxRecDepth 100000 in
set_option maxHeartbeats 400000 in
theorem Nums_calls (g : Nat) (A : Option Addr) (xs : List UInt8) (A2 : Option Addr) (n c2 : Nat) (vs : List Int) (w : World) (hw : WrAt w g A xs) (hr : Rd w A2 (is64 vs)) (hn : vs.length = n)
    (hA2 : Apart (Wf g A) A2 (is64 vs)) (hx : xs.length + 9 * vs.length ≤ 1000000000000) :
    Calls Tryz.prog 161 #[.pointer (some ⟨g, 0, none⟩), .slice A2 n c2] w fun e w' => e = .returned (.tuple #[]) ∧ ∃ A', WrAt w' g A' (xs ++ encAll vs) ∧
      Chg (Wf g A) w w' ∧ Moved w A A' := by
  have HX := Lib.hid hx
  have HN := Lib.hid hn
  have HR := Lib.hid hr
  have HF := Lib.hid hA2
  have hn9 : n ≤ 9223372036854775807 := by omega
  clear hx hn hr hA2
  go_enter Tryz.func161, Tryz.ntmps161
  go_wp2
  go_loopw [10] (fun t wr => ∃ (k : Nat) (A1 : Option Addr), k ≤ n ∧ t = .int .i64 k ∧ WrAt wr g A1 (xs ++ encAll (vs.take k)) ∧
      Chg (Wf g A) w wr ∧ Moved w A A1) (fun t _ => n - (intOf t).toNat)
  case atStart => exact ⟨0, A, Nat.zero_le _, rfl, by simpa [encAll] using hw, Chg.refl _ _, .inl rfl⟩
  case round =>
    obtain ⟨k, A1, hk, rfl, hw1, hchg, hA⟩ := hrel
    have HW1 := Lib.hid hw1
    have HCHG := Lib.hid hchg
    have HA := Lib.hid hA
    clear hw1 hchg hA
    by_cases hlt : k < n
    · have e1 : (k : Int) < n := by omega
      have hkv : k < vs.length := by have := HN.out; omega
      obtain ⟨ad, rfl, hc⟩ := (HR.out.chg HCHG.out HF.out) k (.int .i64 vs[k]) (by simp [is64, hkv])
      have hsn := encAll_snoc (vs.take k) vs[k]
      rw [List.take_append_getElem hkv] at hsn
      have HB : Hid ((xs ++ encAll (vs.take k)).length ≤ 1000000000000) := Lib.hid (by have h1 := encAll_len (vs.take k); have h2 := HX.out; rw [List.length_take] at h1; rw [List.length_append]; omega)
      generalize vs[k] = v at hc hsn
      have HSN := Lib.hid hsn
      clear hkv hsn
      have hcl : (v < 0 ∧ clampN v = (0 : Int).toNat) ∨ ((0 ≤ v ∧ v ≤ 4611686018427387904) ∧ clampN v = v.toNat) ∨ (4611686018427387904 < v ∧ clampN v = (4611686018427387904 : Int).toNat) := by
        unfold clampN; omega
      rcases hcl with ⟨hv, hcl⟩ | ⟨⟨hv, hv2⟩, hcl⟩ | ⟨hv, hcl⟩
      all_goals
        have HCL := Lib.hid hcl
        clear hcl
        go_wp2_with fail
        refine (num_any g A1 _ _ _ HW1.out (by omega) (by omega) HB).mono ?_
        rintro e w1 ⟨rfl, A3, h1, h2, h3⟩
        go_wp2
        obtain ⟨h4, h5⟩ := wf_trans HCHG.out HA.out h2.out h3.out
        refine ⟨⟨k + 1, A3, by omega, by go_num, ?_, h4, h5⟩, by simp [intOf]; omega⟩
        rw [HSN.out, HCL.out, ← List.append_assoc]
        exact h1.out
    · have e1 : (n : Int) ≤ k := by omega
      go_wp2
      go_end0
      refine ⟨rfl, A1, ?_, HCHG.out, HA.out⟩
      have := HW1.out
      rwa [List.take_of_length_le (by have := HN.out; omega)] at this
set_option maxRecDepth 100000 in
set_option maxHeartbeats 400000 in
theorem wRaw_calls (g : Nat) (A : Option Addr) (xs : List UInt8) (A2 : Option Addr) (n c2 : Nat) (ys : List UInt8) (w : World) (hw : WrAt w g A xs) (hr : Rd w A2 (bs ys)) (hn : ys.length = n)
    (hx : xs.length + ys.length ≤ 10000000000000) :
    Calls Tryz.prog 176 #[.pointer (some ⟨g, 0, none⟩), .slice A2 n c2] w fun e w' => e = .returned (.tuple #[]) ∧ ∃ A', Hid (WrAt w' g A' (xs ++ ys)) ∧
      Hid (Chg (Wf g A) w w') ∧ Hid (Moved w A A') := by
  obtain ⟨⟨L, c, hL, hblk, hown⟩, hfar⟩ := hw
  have hc0 : w.cell? ⟨g, 0, none⟩ = some (.slice A L c) := hblk.cell 0
  have hf0 : w.frozen? ⟨g, 0, none⟩ = false := hblk.frozen 0
  have HBLK := Lib.hid hblk
  have HOWN := Lib.hid hown
  have HFAR := Lib.hid hfar
  have HL := Lib.hid hL
  have HN := Lib.hid hn
  have HR := Lib.hid hr
  have HB : Hid (L + n ≤ lim) := hid_lim (by omega)
  have HM : Hid ((bs ys).length = n) := Lib.hid (by rw [bs_length]; exact hn)
  clear hblk hown hfar hL hn hr hx
  go_enter Tryz.func176, Tryz.ntmps176
  go_wp2_with (at_builtin; refine wpList_append_many rfl (.tmp 10) (.tmp 11) elemB rfl (Nat.le_refl _) rfl HOWN.out rfl HR.out HM (bs_one ys) HB ?_)
  intro A3 c3 w3 hown3 hchg3 hA3
  rw [bs_append] at hown3
  have hb3 := HBLK.out.chg hchg3 (fun ⟨ad, e, h⟩ => HFAR.out ad e h)
  have hc3 : w3.cell? ⟨g, 0, none⟩ = some (.slice A L c) := hb3.cell 0
  have hf3 : w3.frozen? ⟨g, 0, none⟩ = false := hb3.frozen 0
  have HP := Lib.hid (wr_push HBLK.out HFAR.out (Chg.refl nowhere w) hchg3 hown3 (by have := HL.out; have := HN.out; simp; omega) (hA3.imp id fun h => ⟨_, h, Nat.le_refl _⟩))
  clear hown3 hchg3 hA3 hb3
  go_wp2
  go_end0
  obtain ⟨h1, h2, h3⟩ := HP.out
  exact ⟨rfl, A3, h1, h2, h3⟩

theorem nilB (w : World) (a : Option Addr) (n c n' c' : Nat) : (binOp .eql 29 (.slice a n c) (.slice none n' c')).run Tryz.prog w = .ok (.bool a.isNone) w :=
  Lib.run_eql_slice_nil w 29 5 a n c n' c' Tryz.underlying29
attribute [local go_sem] nilB
set_option maxRecDepth 100000 in
set_option maxHeartbeats 400000 in
theorem Clone_calls (A : Option Addr) (n c : Nat) (xs : List UInt8) (w : World) (hr : Rd w A (bs xs)) (hn : xs.length = n) (hx : n ≤ 140737488351232) :
    Calls Tryz.prog 162 #[.slice A n c] w fun e w' => ∃ A' c', e = .returned (.slice A' n c') ∧ Hid (Own w' 5 1 A' n c' (bs xs)) ∧
      Hid (Chg nowhere w w') ∧ Hid (∀ ad, A' = some ad → w.heap.size ≤ ad.block) := by
  have HN := Lib.hid hn
  have HR := Lib.hid hr
  have HB : Hid (0 + n ≤ lim) := hid_lim (by omega)
  have HM : Hid ((bs xs).length = n) := Lib.hid (by rw [bs_length]; exact hn)
  clear hr hx
  rcases A with _ | ad
  · have h0 : n = 0 := by
      rcases xs with _ | ⟨x, xs⟩
      · simpa using hn.symm
      · obtain ⟨ad, h, _⟩ := HR.out 0 (u8v x) rfl
        cases h
    subst h0
    have hxs : xs = [] := List.eq_nil_of_length_eq_zero hn
    clear hn
    go_enter Tryz.func162, Tryz.ntmps162
    go_wp2
    go_ret
    refine ⟨none, 0, rfl, ?_, Chg.refl _ _, fun ad h => by cases h⟩
    rw [hxs]
    exact Own.nil _ _ _
  · clear hn
    go_enter Tryz.func162, Tryz.ntmps162
    go_wp2_with (at_builtin; refine wpList_append_many rfl (.tmp 5) (.tmp 6) elemB rfl (Nat.le_refl _) rfl (elem_nil _) rfl (HR.out.alloc _) HM (bs_one xs) HB ?_)
    intro A3 c3 w3 hown3 hchg3 hA3
    have HO := Lib.hid hown3
    have HC : Hid (Chg nowhere w w3) := Lib.hid (((Chg.refl nowhere w).alloc (.cells #[] 5)).trans hchg3 (fun x hx hT => by
      first | omega | (simp at hT; omega) | (obtain ⟨ad, e, h⟩ := hT; injection e with e; subst e; simp at h; omega)))
    have HA : Hid (∀ ad, A3 = some ad → w.heap.size ≤ ad.block) := Lib.hid (by
      rintro ad rfl
      rcases hA3 with h | h <;> injection h with h <;> subst h <;> simp)
    clear hown3 hchg3 hA3
    go_wp2
    go_ret
    exact ⟨A3, c3, rfl, HO.out, HC, HA⟩
theorem Out_calls (g : Nat) (A : Option Addr) (xs : List UInt8) (w : World) (hw : WrAt w g A xs) (hx : xs.length ≤ 10000000000000) :
    Calls Tryz.prog 107 #[.pointer (some ⟨g, 0, none⟩)] w fun e w' => ∃ A' n c', e = .returned (.slice A' n c') ∧ Hid (n = xs.length) ∧ Hid (Own w' 5 1 A' n c' (bs xs)) ∧
      Hid (Chg nowhere w w') ∧ Hid (∀ ad, A' = some ad → w.heap.size ≤ ad.block) := by
  obtain ⟨⟨L, c, hL, hblk, hown⟩, hfar⟩ := hw
  have hc0 : w.cell? ⟨g, 0, none⟩ = some (.slice A L c) := hblk.cell 0
  have hrd := hown.rd
  have hx' : L ≤ 10000000000000 := by omega
  have HL := Lib.hid hL
  have HR := Lib.hid hrd
  have HX := Lib.hid hx'
  clear hblk hown hfar hL hrd hx hx'
  go_enter Tryz.func107, Tryz.ntmps107
  go_wp2_with fail
  refine (Clone_calls A L c xs w HR.out HL.out.symm (Nat.le_trans HX.out (by decide))).mono ?_
  rintro e w1 ⟨A1, c1, rfl, h1, h2, h3⟩
  go_wp2
  go_ret
  exact ⟨A1, L, c1, rfl, HL, h1, h2, h3⟩
def encRows (l : List Row) : List UInt8 := l.flatMap fun r => encRow r.p
def rowsSize : List Row → Nat
  | [] => 0
  | r :: l => r.p.length + 10 + rowsSize l
theorem encRows_snoc (l : List Row) (r : Row) : encRows (l ++ [r]) = encRows l ++ encRow r.p := by simp [encRows]
theorem rowsSize_append (l k : List Row) : rowsSize (l ++ k) = rowsSize l + rowsSize k := by
  induction l with
  | nil => simp [rowsSize]
  | cons r l ih => simp [rowsSize, ih]; omega
theorem encRow_len (p : List UInt8) (h : p.length ≤ 4611686018427387904) : (encRow p).length ≤ p.length + 9 := by
  have := enc_len p.length h
  simp [encRow]; omega
theorem encRows_len (l : List Row) (h : ∀ r ∈ l, r.p.length ≤ 4611686018427387904) : (encRows l).length ≤ rowsSize l := by
  induction l with
  | nil => simp [encRows]
  | cons r l ih =>
    have h1 := encRow_len r.p (h r (by simp))
    have h2 := ih (fun r hr => h r (by simp [hr]))
    simp [encRows, rowsSize] at *
    omega
theorem rowsSize_len (l : List Row) : l.length ≤ rowsSize l := by
  induction l with
  | nil => simp
  | cons r l ih => simp [rowsSize]; omega
theorem rowsSize_mem {l : List Row} {r : Row} (h : r ∈ l) : r.p.length + 10 ≤ rowsSize l := by
  induction l with
  | nil => cases h
  | cons a m ih =>
    rcases List.mem_cons.1 h with rfl | h
    · simp [rowsSize]
    · have := ih h
      simp [rowsSize]; omega
theorem rowsSize_take (l : List Row) (k : Nat) : rowsSize (l.take k) + rowsSize (l.drop k) = rowsSize l := by
  rw [← rowsSize_append, List.take_append_drop]
end Go.Proofs.YteieielodooglaaGreat
