/- Fr, OcRfA, OcRfB, OcRfC -/
import Derived.Test.YthcleccofccbdaaTaOcEl
import Derived.Test.YthcleccofccbdaaTaOcW
section
open Go Go.RowKit
namespace Go.Proofs.Ythcleccofccbdaa
/-- a row that the call made since w0 -/
structure Fresh (w0 w : World) (A : Option Addr) (n c : Nat) (xs : List UInt8) : Prop where
  own : Own w 5 1 A n c (bs xs)
  len : n = xs.length
  chg : Chg nowhere w0 w
  new : ∀ ad, A = some ad → w0.heap.size ≤ ad.block
theorem Fresh.nil (w : World) : Fresh w w none 0 0 [] := ⟨Own.nil _ _ _, rfl, Chg.refl _ _, fun ad e => by cases e⟩
theorem Fresh.push {w0 w wx w2 : World} {A A' : Option Addr} {n c n' c' : Nat} {xs ys : List UInt8} (h : Fresh w0 w A n c xs) (h0 : Chg nowhere w wx) (hc : Chg (fun k => ∃ ad, A = some ad ∧ ad.block = k) wx w2)
    (ho : Own w2 5 1 A' n' c' (bs ys)) (hn : n' = ys.length) (hA : A' = A ∨ ∃ z, A' = some ⟨z, 0, none⟩ ∧ w.heap.size ≤ z) : Fresh w0 w2 A' n' c' ys := by
  refine ⟨ho, hn, (h.chg.step h0 (fun _ h => h.elim)).step hc ?_, ?_⟩
  · rintro x ⟨ad, e, rfl⟩
    exact h.new ad e
  · rintro ad rfl
    rcases hA with e | ⟨z, e, hz⟩
    · exact h.new ad e.symm
    · injection e with e
      subst e
      have := h.chg.size
      show w0.heap.size ≤ z
      omega
theorem Fresh.rd {w0 w : World} {A : Option Addr} {n c : Nat} {xs : List UInt8} (h : Fresh w0 w A n c xs) : Rd w A (bs xs) := h.own.rd
/-- a byte more -/
theorem Fresh.one {w0 w w2 : World} {A A' : Option Addr} {n c c' : Nat} {xs : List UInt8} {b : UInt8} {o : Obj} (h : Fresh w0 w A n c xs) (hc : Chg (fun k => ∃ ad, A = some ad ∧ ad.block = k) (w.alloc o) w2)
    (ho : Own w2 5 1 A' (n + 1) c' (bs xs ++ [.int .u8 (b.toNat : Int)])) (hA : A' = A ∨ A' = some ⟨w.heap.size + 1, 0, none⟩) : Fresh w0 w2 A' (n + 1) c' (xs ++ [b]) := by
  refine h.push (wx := w.alloc o) ((Chg.refl _ _).alloc _) hc (by simpa [bs, u8v] using ho) (by simp [h.len]) (hA.imp id fun e => ⟨_, e, Nat.le_succ _⟩)
/-- many bytes more -/
theorem Fresh.many {w0 w w2 : World} {A A' : Option Addr} {n m c c' : Nat} {xs ys : List UInt8} (h : Fresh w0 w A n c xs) (hm : ys.length = m) (hc : Chg (fun k => ∃ ad, A = some ad ∧ ad.block = k) w w2)
    (ho : Own w2 5 1 A' (n + m) c' (bs xs ++ bs ys)) (hA : A' = A ∨ ∃ z, A' = some ⟨z, 0, none⟩ ∧ w.heap.size ≤ z) : Fresh w0 w2 A' (n + m) c' (xs ++ ys) := by
  refine h.push (wx := w) (Chg.refl _ _) hc (by rw [bs_append] at ho; exact ho) (by simp [h.len, hm]) hA
theorem Fresh.le {w0 w : World} {A : Option Addr} {n c : Nat} {xs : List UInt8} (h : Fresh w0 w A n c xs) : n ≤ c := by
  rcases h.own.form with ⟨_, h1, h2, _⟩ | ⟨_, _, _, _, h1, _⟩ <;> omega
end Go.Proofs.Ythcleccofccbdaa
end
section
open Go Go.RowKit
namespace Go.Proofs.Ythcleccofccbdaa
theorem u8_or_128' (m : Nat) : Value.int .u8 (bits .or .u8 ((m : Int) % 128) 128) = u8v (UInt8.ofNat (m % 128 + 128)) := by
  have h := u8_or_128 (m % 128)
  rw [show (((m % 128 : Nat) : Int) % 256) = (m : Int) % 128 by omega, Nat.mod_mod] at h
  exact h
theorem u64_and127 (m : Nat) (h : m < 18446744073709551616) : bits .and .u64 (m : Int) 127 = ((m % 128 : Nat) : Int) := by
  rw [show (127 : Int) = ((127 : Nat) : Int) from rfl, u64_and_nat m 127 h (by decide), nat_mask7]
set_option maxRecDepth 100000 in
set_option maxHeartbeats 400000 in
theorem refNum_calls (v : Int) (w : World) :
    Calls Try.prog 63 #[.int .i64 v] w fun e w' => ∃ A n c, e = .returned (.slice A n c) ∧ Hid (Fresh w w' A n c (enc (clampN v))) := by
  have hle := clampN_le v
  have HLEN := Lib.hid (enc_len (clampN v) hle)
  have hcl : (v ≤ 0 ∧ clampN v = 0) ∨ ((0 < v ∧ v ≤ 4611686018427387904) ∧ (clampN v : Int) = v) ∨ (4611686018427387904 < v ∧ clampN v = 4611686018427387904) := by
    unfold clampN; omega
  obtain ⟨N, hN⟩ : ∃ N, N = clampN v := ⟨_, rfl⟩
  rw [← hN] at hcl hle HLEN ⊢
  have hN9 : N ≤ 9223372036854775807 := by omega
  clear hN hle
  rcases hcl with ⟨hv, hcl⟩ | ⟨⟨hv, hv2⟩, hcl⟩ | ⟨hv, hcl⟩
  all_goals
    have HCL := Lib.hid hcl
    clear hcl
    go_enter Try.func63, Try.ntmps63
    go_wp2_with fail
    go_loopw [3, 4] (fun t u wr => ∃ (m : Nat) (A1 : Option Addr) (n1 c1 : Nat) (pre : List UInt8), m ≤ N ∧ t = .int .u64 m ∧ u = .slice A1 n1 c1 ∧ Fresh w wr A1 n1 c1 pre ∧ pre ++ enc m = enc N) (fun t _ _ => (intOf t).toNat)
    case atStart => exact ⟨N, none, 0, 0, [], Nat.le_refl _, by have := HCL.out; first | (rw [this]; rfl) | (rw [this]; go_num) | (rw [← this]), rfl, Fresh.nil _, rfl⟩
    case round =>
      obtain ⟨m, A1, n1, c1, pre, hm, rfl, rfl, hfr, henc⟩ := hrel
      have hpre : pre.length ≤ 9 := by have h1 := congrArg List.length henc; have h2 := HLEN.out; simp at h1; omega
      have hm64 : m < 18446744073709551616 := by omega
      have HF := Lib.hid hfr
      have HENC := Lib.hid henc
      have HB : Hid (n1 + 1 ≤ lim) := hid_lim (by rw [hfr.len]; omega)
      have q1 := u64_and127 m hm64
      clear hfr henc hm64
      by_cases hlt : m < 128
      · have e1 : (m : Int) < 128 := by omega
        go_wp2_with (at_builtin; refine wpList_append_one rfl (.tmp 22) (.tmp 25) elemB rfl (Nat.le_refl _) rfl (HF.out.own.alloc _) rfl (Rd.lit _ [_] _) rfl HB ?_)
        intro A2 c2 w2 hown2 hchg2 hA2
        rw [u8_low m hlt, show bs pre ++ [u8v (UInt8.ofNat m)] = bs (pre ++ [UInt8.ofNat m]) by simp [bs]] at hown2
        have HP := Lib.hid (HF.out.push ((Chg.refl nowhere wr).alloc _) hchg2 hown2 (by rw [HF.out.len]; simp) (hA2.imp id fun h => ⟨_, h, by omega⟩))
        clear hown2 hchg2 hA2
        go_wp2_with fail
        go_ret
        refine ⟨A2, n1 + 1, c2, rfl, ?_⟩
        have := HENC.out
        rw [enc_small hlt] at this
        rw [← this]
        exact HP.out
      · have e1 : 128 ≤ (m : Int) := by omega
        go_wp2_with (at_builtin; refine wpList_append_one rfl (.tmp 13) (.tmp 18) elemB rfl (Nat.le_refl _) rfl (HF.out.own.alloc _) rfl (Rd.lit _ [_] _) rfl HB ?_)
        intro A2 c2 w2 hown2 hchg2 hA2
        rw [u8_or_128' m, show bs pre ++ [u8v (UInt8.ofNat (m % 128 + 128))] = bs (pre ++ [UInt8.ofNat (m % 128 + 128)]) by simp [bs]] at hown2
        have HP := Lib.hid (HF.out.push ((Chg.refl nowhere wr).alloc _) hchg2 hown2 (by rw [HF.out.len]; simp) (hA2.imp id fun h => ⟨_, h, by omega⟩))
        clear hown2 hchg2 hA2
        go_wp2_with fail
        have := HENC.out
        rw [enc_large hlt] at this
        exact ⟨⟨m / 128, A2, n1 + 1, c2, pre ++ [UInt8.ofNat (m % 128 + 128)], by omega, by go_num, rfl, HP.out, by rw [← this, List.append_assoc]; rfl⟩, by simp [intOf]; omega⟩
end Go.Proofs.Ythcleccofccbdaa
end
section
open Go Go.RowKit
namespace Go.Proofs.Ythcleccofccbdaa
set_option maxRecDepth 100000 in
set_option maxHeartbeats 400000 in
theorem refNums_calls (A : Option Addr) (n c : Nat) (vs : List Int) (w : World) (hr : Rd w A (is64 vs)) (hn : vs.length = n) (hx : n ≤ 1000000000) :
    Calls Try.prog 48 #[.slice A n c] w fun e w' => ∃ A' n' c', e = .returned (.slice A' n' c') ∧ Hid (Fresh w w' A' n' c' (encAll vs)) := by
  have HR := Lib.hid hr
  have HN := Lib.hid hn
  have hn9 : n ≤ 9223372036854775807 := by omega
  have HX := Lib.hid hx
  clear hr hn hx
  go_enter Try.func48, Try.ntmps48
  go_wp2_with fail
  go_loopw [3, 4] (fun u t wr => ∃ (k : Nat) (A1 : Option Addr) (n1 c1 : Nat), k ≤ n ∧ t = .int .i64 k ∧ u = .slice A1 n1 c1 ∧ Fresh w wr A1 n1 c1 (encAll (vs.take k))) (fun _ t _ => n - (intOf t).toNat)
  case atStart => exact ⟨0, none, 0, 0, Nat.zero_le _, rfl, rfl, Fresh.nil _⟩
  case round =>
    obtain ⟨k, A1, n1, c1, hk, rfl, rfl, hfr⟩ := hrel
    have HF := Lib.hid hfr
    clear hfr
    by_cases hlt : k < n
    · have e1 : (k : Int) < n := by omega
      have hkv : k < vs.length := by have := HN.out; omega
      obtain ⟨ad, rfl, hc⟩ := (HR.out.later HF.out.chg) k (.int .i64 vs[k]) (by simp [is64, hkv])
      have hsn := encAll_snoc (vs.take k) vs[k]
      rw [List.take_append_getElem hkv] at hsn
      have hl1 := encAll_len (vs.take k)
      rw [List.length_take] at hl1
      generalize vs[k] = v at hc hsn
      have HSN := Lib.hid hsn
      have HL1 := Lib.hid hl1
      clear hkv hsn hl1
      go_wp2_with fail
      refine (refNum_calls v _).mono ?_
      rintro e w1 ⟨A2, n2, c2, rfl, h2⟩
      have HM : Hid ((bs (enc (clampN v))).length = n2) := Lib.hid (by rw [bs_length]; exact h2.out.len.symm)
      have HB : Hid (n1 + n2 ≤ lim) := hid_lim (by
        have h3 := HF.out.len
        have h4 := h2.out.len
        have h5 := HL1.out
        have h6 := enc_len _ (clampN_le v)
        have h7 := HX.out
        omega)
      have HO : Hid (Own w1 5 1 A1 n1 c1 (bs (encAll (vs.take k)))) := Lib.hid (HF.out.own.chg h2.out.chg (fun _ _ h => h))
      go_wp2_with (at_builtin; refine wpList_append_many rfl (.tmp 11) (.tmp 16) elemB rfl (Nat.le_refl _) rfl HO.out rfl h2.out.rd HM (bs_one _) HB ?_)
      intro A3 c3 w3 hown3 hchg3 hA3
      rw [bs_append] at hown3
      have HP := Lib.hid (HF.out.push h2.out.chg hchg3 hown3 (by rw [HF.out.len, h2.out.len]; simp) (hA3.imp id fun h => ⟨_, h, h2.out.chg.size⟩))
      clear hown3 hchg3 hA3
      go_wp2_with fail
      exact ⟨⟨k + 1, A3, n1 + n2, c3, by omega, by go_num, rfl, by rw [HSN.out]; exact HP.out⟩, by simp [intOf]; omega⟩
    · have e1 : (n : Int) ≤ k := by omega
      go_wp2_with fail
      go_ret
      refine ⟨A1, n1, c1, rfl, ?_⟩
      have := HF.out
      rwa [List.take_of_length_le (by have := HN.out; omega)] at this
end Go.Proofs.Ythcleccofccbdaa
end
section
open Go Go.RowKit
namespace Go.Proofs.Ythcleccofccbdaa
end Go.Proofs.Ythcleccofccbdaa
end
